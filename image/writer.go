package image

import "ferrybridge/api"

// writer gathers the bytes of a machine that may be, so that each of its numbers fits in four bytes.
type writer struct {
	written []byte
}

// numbers writes each of all, the lowest byte first.
func (w *writer) numbers(all ...uint32) {
	for _, n := range all {
		w.written = append(w.written, byte(n), byte(n>>8), byte(n>>16), byte(n>>24))
	}
}

func (w *writer) machine(m api.Machine) {
	w.numbers(uint32(len(m.Memory)))
	w.written = append(w.written, m.Memory...)
	w.numbers(uint32(len(m.Harts)))
	for _, h := range m.Harts {
		w.hart(h)
	}
}

func (w *writer) hart(h api.Hart) {
	w.numbers(h.Regs[:]...)
	w.numbers(h.PC, told(h.Held), h.HeldAt, uint32(h.State), uint32(h.Cause))
}

// told is yes or no as a number.
func told(yes bool) uint32 {
	if yes {
		return 1
	}
	return 0
}
