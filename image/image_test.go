package image_test

import (
	"bytes"
	"slices"
	"testing"

	"ferrybridge/api"
	"ferrybridge/image"
	"ferrybridge/machine"
)

const ones = uint32(1<<32 - 1)

// How many bytes a number and a hart have, and where the fields of a hart stand in its bytes.
const (
	number   = 4
	whole    = 148
	atPC     = 128
	atHeld   = 132
	atHeldAt = 136
	atState  = 140
	atCause  = 144
)

// full is a hart that runs, each register but 0 with a number of four different bytes, told apart by mark.
func full(mark byte) api.Hart {
	var h api.Hart
	for k := 1; k < 32; k++ {
		h.Regs[k] = uint32(mark)<<24 | uint32(k)<<16 | uint32(255-mark)<<8 | uint32(128+k)
	}
	h.PC = uint32(mark)<<24 | 0x00c1d200 | uint32(mark+1)
	return h
}

func held(h api.Hart, at uint32) api.Hart {
	h.Held, h.HeldAt = true, at
	return h
}

func trapped(h api.Hart, cause int) api.Hart {
	h.State, h.Cause = api.Trapped, cause
	return h
}

func halted(h api.Hart) api.Hart {
	h.State = api.Halted
	return h
}

// of is a machine.
func of(memory []byte, harts ...api.Hart) api.Machine {
	return api.Machine{Memory: memory, Harts: harts}
}

// filled is a memory of that size with something in each byte.
func filled(size int) []byte {
	m := make([]byte, size)
	for k := range m {
		m[k] = byte(37*k + 11 + k>>8)
	}
	return m
}

func sameMachine(a, b api.Machine) bool {
	return bytes.Equal(a.Memory, b.Memory) && slices.Equal(a.Harts, b.Harts)
}

func copyOf(m api.Machine) api.Machine { return of(bytes.Clone(m.Memory), slices.Clone(m.Harts)...) }

// put is a Put that must be OK, and leave alone what was handed in.
func put(t *testing.T, name string, m api.Machine) []byte {
	t.Helper()
	was := copyOf(m)
	b, e := image.Put(m)
	if e != api.OK {
		t.Fatalf("%s: Put: error %v", name, e)
	}
	if !sameMachine(m, was) {
		t.Errorf("%s: Put changed what was handed in", name)
	}
	return b
}

// get is a Get that must be OK, answer a machine that may be, and leave alone what was handed in.
func get(t *testing.T, name string, b []byte) api.Machine {
	t.Helper()
	was := bytes.Clone(b)
	m, e := image.Get(b)
	if e != api.OK {
		t.Fatalf("%s: Get: error %v", name, e)
	}
	if !bytes.Equal(b, was) {
		t.Errorf("%s: Get changed what was handed in", name)
	}
	if !machine.May(m) {
		t.Errorf("%s: Get answers a machine that may not be: %v", name, m)
	}
	return m
}

// checkBoth: Put of m is b, and Get of b is m; and each of what the other one answers.
func checkBoth(t *testing.T, name string, m api.Machine, b []byte) {
	t.Helper()
	gotBytes := put(t, name, m)
	if !bytes.Equal(gotBytes, b) {
		t.Fatalf("%s: Put is %v, want %v", name, gotBytes, b)
	}
	gotMachine := get(t, name, b)
	if !sameMachine(gotMachine, m) {
		t.Fatalf("%s: Get is %v, want %v", name, gotMachine, m)
	}
	if again := get(t, name, gotBytes); !sameMachine(again, m) {
		t.Errorf("%s: Get of what Put answers is %v, want %v", name, again, m)
	}
	if again := put(t, name, gotMachine); !bytes.Equal(again, b) {
		t.Errorf("%s: Put of what Get answers is %v, want %v", name, again, b)
	}
}

// checkPutWrong is a Put that must tell ErrForm, and nothing else.
func checkPutWrong(t *testing.T, name string, m api.Machine) {
	t.Helper()
	was := copyOf(m)
	b, e := image.Put(m)
	if e != api.ErrForm || len(b) != 0 {
		t.Errorf("%s: Put: %d bytes, error %v", name, len(b), e)
	}
	if !sameMachine(m, was) {
		t.Errorf("%s: Put changed what was handed in", name)
	}
}

// checkGetWrong is a Get that must tell ErrForm, and nothing else.
func checkGetWrong(t *testing.T, name string, b []byte) {
	t.Helper()
	was := bytes.Clone(b)
	m, e := image.Get(b)
	if e != api.ErrForm || len(m.Memory) != 0 || len(m.Harts) != 0 {
		t.Errorf("%s: Get: %v, error %v", name, m, e)
	}
	if !bytes.Equal(b, was) {
		t.Errorf("%s: Get changed what was handed in", name)
	}
}

// TestExample: the chapter's example.
func TestExample(t *testing.T) {
	want := make([]byte, 4+4+148)
	want[4] = 1
	checkBoth(t, "the example", of(nil, api.Hart{}), want)
	checkBoth(t, "the example, its memory not nil", of([]byte{}, api.Hart{}), want)
}
