package image

import (
	"bytes"

	"ferrybridge/api"
)

// reader reads what a writer wrote. Where it meets what no writer writes it is wrong from there on, and what it answers is of no use; so the steps of a reading need not be asked one by one.
type reader struct {
	rest  []byte
	wrong bool
}

// take answers the next size bytes, which lie on those that were handed in: what is to be kept of them must be copied.
func (r *reader) take(size uint32) []byte {
	if uint64(size) > uint64(len(r.rest)) {
		r.wrong = true
		return nil
	}
	part := r.rest[:size]
	r.rest = r.rest[size:]
	return part
}

func (r *reader) number() uint32 {
	n := uint32(0)
	for i, b := range r.take(4) {
		n |= uint32(b) << (8 * i)
	}
	return n
}

// upTo reads a number that is wrong beyond most, and 0 then, so that no loop or memory hangs on a number that may be as great as it likes.
func (r *reader) upTo(most uint32) uint32 {
	n := r.number()
	if n > most {
		r.wrong = true
		return 0
	}
	return n
}

func (r *reader) machine() api.Machine {
	var m api.Machine
	m.Memory = bytes.Clone(r.take(r.upTo(api.MaxMemory)))
	for range r.upTo(api.MaxHarts) {
		m.Harts = append(m.Harts, r.hart())
	}
	return m
}

// hart reads one that may be or not. State and Cause are held below their last ones here, since a greater number need not fit in an int.
func (r *reader) hart() api.Hart {
	var h api.Hart
	for i := range h.Regs {
		h.Regs[i] = r.number()
	}
	h.PC = r.number()
	h.Held = r.upTo(1) == 1
	h.HeldAt = r.number()
	h.State = int(r.upTo(api.Trapped))
	h.Cause = int(r.upTo(api.CauseBreak))
	return h
}
