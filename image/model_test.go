package image_test

import (
	"bytes"
	"encoding/binary"
	"testing"

	"ferrybridge/api"
	"ferrybridge/image"
	"ferrybridge/machine"
)

// A model of the chapter: places are reckoned from the numbers, and all are looked at from outside.

// modelPut are the bytes of a machine that may be.
func modelPut(m api.Machine) []byte {
	size := len(m.Memory)
	b := make([]byte, 8+size+whole*len(m.Harts))
	binary.LittleEndian.PutUint32(b, uint32(size))
	copy(b[4:], m.Memory)
	binary.LittleEndian.PutUint32(b[4+size:], uint32(len(m.Harts)))
	for k, h := range m.Harts {
		part := b[8+size+whole*k:]
		for r, w := range h.Regs {
			binary.LittleEndian.PutUint32(part[4*r:], w)
		}
		binary.LittleEndian.PutUint32(part[atPC:], h.PC)
		if h.Held {
			part[atHeld] = 1
		}
		binary.LittleEndian.PutUint32(part[atHeldAt:], h.HeldAt)
		part[atState], part[atCause] = byte(h.State), byte(h.Cause)
	}
	return b
}

// modelGet is the machine that has these bytes, if there is one: it is guessed from them, and then held against them.
func modelGet(b []byte) (api.Machine, bool) {
	if len(b) < 8 {
		return api.Machine{}, false
	}
	size := int(binary.LittleEndian.Uint32(b))
	if size > api.MaxMemory || len(b) < 8+size || (len(b)-8-size)%whole != 0 {
		return api.Machine{}, false
	}
	m := of(bytes.Clone(b[4 : 4+size]))
	for part := b[8+size:]; len(part) > 0; part = part[whole:] {
		var h api.Hart
		for r := range h.Regs {
			h.Regs[r] = binary.LittleEndian.Uint32(part[4*r:])
		}
		h.PC = binary.LittleEndian.Uint32(part[atPC:])
		h.Held = part[atHeld] == 1
		h.HeldAt = binary.LittleEndian.Uint32(part[atHeldAt:])
		h.State, h.Cause = int(part[atState]), int(part[atCause])
		m.Harts = append(m.Harts, h)
	}
	if !machine.May(m) || !bytes.Equal(modelPut(m), b) {
		return api.Machine{}, false
	}
	return m, true
}

// strewn is a row of numbers by a fixed rule.
type strewn uint32

func (s *strewn) next() uint32 {
	*s ^= *s << 13
	*s ^= *s >> 17
	*s ^= *s << 5
	return uint32(*s)
}

func (s *strewn) below(n int) int { return int(s.next() >> 7 % uint32(n)) }

// hart is some hart that may be.
func (s *strewn) hart() api.Hart {
	var h api.Hart
	for r := 1; r < 32; r++ {
		h.Regs[r] = s.next() >> s.below(32)
	}
	h.PC = s.next()
	if s.below(2) == 0 {
		h = held(h, s.next()>>s.below(32))
	}
	switch s.below(3) {
	case 0:
		return halted(h)
	case 1:
		return trapped(h, 1+s.below(api.CauseBreak))
	}
	return h
}

// machine is some machine that may be, mostly of a small memory.
func (s *strewn) machine() api.Machine {
	sizes := []int{1, 5, 9, 17, 300, api.MaxMemory + 1}
	m := of(make([]byte, s.below(sizes[s.below(len(sizes))])))
	for k := range m.Memory {
		m.Memory[k] = byte(s.next() >> 11)
	}
	for range 1 + s.below(api.MaxHarts) {
		m.Harts = append(m.Harts, s.hart())
	}
	return m
}

// places are where numbers stand that not each number may be.
func places(m api.Machine) []int {
	base := 8 + len(m.Memory)
	all := []int{0, base - 4}
	for k := range m.Harts {
		for _, at := range []int{0, atHeld, atHeldAt, atState, atCause} {
			all = append(all, base+whole*k+at)
		}
	}
	return all
}

// spoilt is a copy of the bytes of m with something done to it, after which they may be some machine's, or not.
func (s *strewn) spoilt(m api.Machine, b []byte) []byte {
	c := bytes.Clone(b)
	all := places(m)
	at := all[s.below(len(all))]
	switch s.below(7) {
	case 0:
		return c[:s.below(len(c))]
	case 1:
		return append(c, make([]byte, 1+s.below(2*whole))...)
	case 2:
		c[at] = byte(s.below(8))
	case 3:
		c[at+s.below(4)] ^= 1 << s.below(8)
	case 4:
		binary.LittleEndian.PutUint32(c[at:], s.next()>>s.below(32))
	case 5:
		c[s.below(len(c))] = byte(s.next() >> 9)
	case 6:
		cut := s.below(len(c))
		end := min(len(c), cut+1+s.below(whole))
		return append(c[:cut], c[end:]...)
	}
	return c
}

// TestModel: M1 and M2: the bytes of many machines, and these with something done to them, against the model.
func TestModel(t *testing.T) {
	s := strewn(1)
	good, bad := 0, 0
	for range 20000 {
		m := s.machine()
		b := modelPut(m)
		checkBoth(t, "the model", m, b)
		odd := s.spoilt(m, b)
		want, ok := modelGet(odd)
		if ok {
			checkBoth(t, "spoilt", want, odd)
			good++
		} else {
			checkGetWrong(t, "spoilt", odd)
			bad++
		}
	}
	if good < 2000 || bad < 8000 {
		t.Errorf("%d good, %d bad", good, bad)
	}
}

// TestShortRows: P1: Get of rows of few bytes, each of them of few kinds: none panics, and none is a machine's.
func TestShortRows(t *testing.T) {
	kinds := []byte{0, 1, 4, 255}
	for size := range 9 {
		row := make([]byte, size)
		for n := range 1 << (2 * size) {
			for k := range row {
				row[k] = kinds[n>>(2*k)&3]
			}
			if m, e := image.Get(row); e != api.ErrForm || len(m.Memory)+len(m.Harts) != 0 {
				t.Fatalf("Get(%v): %v, error %v", row, m, e)
			}
		}
	}
}

// FuzzGet: M2: whatever the bytes are, Get answers what the model does.
func FuzzGet(f *testing.F) {
	for _, m := range some() {
		f.Add(modelPut(m))
	}
	f.Add([]byte{})
	f.Fuzz(func(t *testing.T, b []byte) {
		want, ok := modelGet(b)
		if ok {
			checkBoth(t, "fuzzed", want, b)
		} else {
			checkGetWrong(t, "fuzzed", b)
		}
	})
}
