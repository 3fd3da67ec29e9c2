package image_test

import (
	"bytes"
	"slices"
	"testing"

	"ferrybridge/api"
	"ferrybridge/image"
)

// spoilMachine changes all of a machine, and what lies behind its lengths.
func spoilMachine(m api.Machine) {
	spoilBytes(m.Memory)
	for k := range m.Harts[:cap(m.Harts)] {
		m.Harts[:cap(m.Harts)][k] = full(99)
	}
}

func spoilBytes(b []byte) {
	for k := range b[:cap(b)] {
		b[:cap(b)][k] ^= 255
	}
}

// TestPutAlone: P3: what Put answers is new: spoilt, it changes nothing that was handed in, and nothing that another Put answers; and what was handed in is not kept.
func TestPutAlone(t *testing.T) {
	for name, m := range some() {
		memory := append(bytes.Clone(m.Memory), 1, 2, 3, 4, 5, 6, 7, 8)
		harts := append(slices.Clone(m.Harts), full(1), full(2))
		roomy := of(memory[:len(m.Memory)], harts[:len(m.Harts)]...)
		wasMemory, wasHarts := bytes.Clone(memory), slices.Clone(harts)
		want := modelPut(m)
		kept := put(t, name, roomy)
		spoilBytes(put(t, name, roomy))
		if !bytes.Equal(memory, wasMemory) || !slices.Equal(harts, wasHarts) {
			t.Errorf("%s: what is answered lies on what was handed in", name)
		}
		if !bytes.Equal(kept, want) {
			t.Errorf("%s: two answers lie on each other", name)
		}
		spoilMachine(of(memory, harts...))
		if !bytes.Equal(kept, want) {
			t.Errorf("%s: what was handed in lies on what is answered", name)
		}
	}
}

// TestGetAlone: P3: likewise of Get, the bytes with more of them behind their length.
func TestGetAlone(t *testing.T) {
	for name, m := range some() {
		all := append(modelPut(m), 1, 2, 3, 4, 5, 6, 7, 8)
		b := all[:len(all)-8]
		was := bytes.Clone(all)
		kept := get(t, name, b)
		spoilMachine(get(t, name, b))
		if !bytes.Equal(all, was) {
			t.Errorf("%s: what is answered lies on what was handed in", name)
		}
		if !sameMachine(kept, m) {
			t.Errorf("%s: two answers lie on each other", name)
		}
		spoilBytes(all)
		if !sameMachine(kept, m) {
			t.Errorf("%s: what was handed in lies on what is answered", name)
		}
	}
}

// TestBehindLengths: P3: what lies behind the lengths is neither read nor written: a hart that may not be, and bytes that would make a machine whole.
func TestBehindLengths(t *testing.T) {
	odd := full(3)
	odd.Regs[0] = 1
	memory, harts := filled(16), []api.Hart{full(1), full(2), odd}
	m := of(memory[:8], harts[:2]...)
	b := put(t, "behind", m)
	if !bytes.Equal(b, modelPut(of(filled(16)[:8], full(1), full(2)))) {
		t.Errorf("Put is %v", b)
	}
	if !bytes.Equal(memory, filled(16)) || !slices.Equal(harts, []api.Hart{full(1), full(2), odd}) {
		t.Error("Put changed what lies behind the lengths")
	}
	for end := range b {
		checkGetWrong(t, "the rest is behind", b[:end])
	}
	if !bytes.Equal(b, modelPut(m)) {
		t.Error("Get changed what lies behind the length")
	}
}

// TestSameAgain: P3: what is answered hangs on the arguments alone: other calls between, wrong ones too, change nothing.
func TestSameAgain(t *testing.T) {
	for name, m := range some() {
		b, got := put(t, name, m), get(t, name, modelPut(m))
		image.Put(api.Machine{})
		image.Put(of(filled(api.MaxMemory), first()))
		image.Get(nil)
		image.Get(b[:len(b)-1])
		image.Get(append(bytes.Clone(b), 7))
		if !bytes.Equal(put(t, name, m), b) || !sameMachine(get(t, name, b), got) {
			t.Errorf("%s: a second call answers otherwise", name)
		}
	}
}
