package machine_test

import (
	"bytes"
	"slices"
	"testing"

	"ferrybridge/api"
	"ferrybridge/decode"
	"ferrybridge/hart"
	"ferrybridge/machine"
	"ferrybridge/mem"
)

// A model of the chapter: step by step by hart.Step, with each store told from the instruction ahead of it, and reservations lost byte by byte.

// stored is where a step that was done from h on m stored, and in how many bytes; after is the hart behind it.
func stored(h api.Hart, m []byte, after api.Hart) (uint32, uint32) {
	w, ok := mem.Load(m, api.LW, h.PC)
	i, is := decode.Decode(w)
	if !ok || !is || after.State != api.Runs {
		return 0, 0
	}
	a := h.Regs[i.Rs1]
	switch {
	case i.Op == api.SB:
		return a + uint32(i.Imm), 1
	case i.Op == api.SH:
		return a + uint32(i.Imm), 2
	case i.Op == api.SW:
		return a + uint32(i.Imm), 4
	case i.Op == api.SCW && h.Held && h.HeldAt == a, i.Op >= api.AMOSWAP && i.Op <= api.AMOMAXU:
		return a, 4
	}
	return 0, 0
}

// model tells what Run shows of a machine and a script that may be, and how many reservations were lost.
func model(m api.Machine, script []api.Pick) (api.Shown, int) {
	s := api.Shown{Machine: api.Machine{Memory: m.Memory, Harts: slices.Clone(m.Harts)}}
	lost := 0
	for _, p := range script {
		for range p.Steps {
			h := s.Machine.Harts[p.Hart]
			after, memory, out, ok := hart.Step(h, s.Machine.Memory)
			if !ok {
				break
			}
			at, size := stored(h, s.Machine.Memory, after)
			for k, other := range s.Machine.Harts {
				if k != p.Hart && other.Held && touches(at, size, other.HeldAt) {
					s.Machine.Harts[k].Held, s.Machine.Harts[k].HeldAt = false, 0
					lost++
				}
			}
			s.Machine.Harts[p.Hart], s.Machine.Memory = after, memory
			s.Out = append(s.Out, out...)
			s.Steps++
		}
	}
	return s, lost
}

// strewn is a row of numbers by a fixed rule.
type strewn uint32

func (s *strewn) next() uint32 {
	*s ^= *s << 13
	*s ^= *s >> 17
	*s ^= *s << 5
	return uint32(*s)
}

func (s *strewn) below(n uint32) uint32 { return s.next() >> 7 % n }

// ins is some instruction, stores and atomic ones more often than others; registers are few, so that they meet.
func (s *strewn) ins() api.Ins {
	rd, rs1, rs2 := int(s.below(3)), int(3+s.below(3)), int(3+s.below(4))
	switch s.below(10) {
	case 0:
		return api.Ins{Op: api.ADDI, Rd: 3, Rs1: 3, Imm: 4*int32(s.below(5)) - 8}
	case 1:
		return api.Ins{Op: api.LRW, Rd: rd, Rs1: rs1}
	case 2:
		return api.Ins{Op: api.SCW, Rd: rd, Rs1: rs1, Rs2: rs2}
	case 3:
		return api.Ins{Op: int(api.AMOSWAP + s.below(9)), Rd: rd, Rs1: rs1, Rs2: rs2}
	case 4:
		return api.Ins{Op: api.SB, Rs1: rs1, Rs2: rs2, Imm: int32(s.below(12)) - 4}
	case 5:
		return api.Ins{Op: api.SH, Rs1: rs1, Rs2: rs2, Imm: 2*int32(s.below(6)) - 4}
	case 6:
		return api.Ins{Op: api.SW, Rs1: rs1, Rs2: rs2, Imm: 4*int32(s.below(3)) - 4}
	case 7:
		return api.Ins{Op: api.BNE, Rs1: rs1, Rs2: rs2, Imm: 4*int32(s.below(9)) - 16}
	case 8:
		return api.Ins{Op: api.LW, Rd: rd, Rs1: rs1}
	}
	return api.Ins{Op: []int{api.ECALL, api.ECALL, api.FENCE, api.EBREAK}[s.below(4)]}
}

// machine is some machine of harts whose places lie close to each other; now and then one that begins anyhow.
func (s *strewn) machine(t *testing.T) api.Machine {
	t.Helper()
	m := make([]byte, 4*(8+s.below(16)))
	for at := 0; at < len(m); at += 4 {
		m = lay(t, m, at, s.ins())
	}
	m = m[:len(m)-int(s.below(2)*s.below(4))]
	base := 4 * s.below(uint32(len(m)/4))
	harts := make([]api.Hart, 1+s.below(api.MaxHarts))
	for k := range harts {
		h := &harts[k]
		for r := 1; r < 32; r++ {
			h.Regs[r] = base + 4*s.below(4)
		}
		h.Regs[6], h.Regs[17] = s.next(), 1-s.below(12)/11
		h.PC = 4 * s.below(uint32(len(m)/4))
		switch s.below(8) {
		case 0, 1, 2:
			*h = held(*h, base+s.below(16))
		case 3:
			*h = held(*h, ones-s.below(6))
		case 4:
			*h = trapped(held(*h, base), api.CauseWord)
		}
	}
	return api.Machine{Memory: m, Harts: harts}
}

// script is some script of up to 20 picks for so many harts.
func (s *strewn) script(harts int) []api.Pick {
	var script []api.Pick
	for range s.below(21) {
		script = append(script, api.Pick{Hart: int(s.below(uint32(harts))), Steps: int(s.below(2 + s.below(12)))})
	}
	return script
}

// TestModel: E2 and E3: what is shown of many machines and scripts, against the model.
func TestModel(t *testing.T) {
	s := strewn(1)
	steps, lost, out := 0, 0, 0
	for range 20000 {
		m := s.machine(t)
		script := s.script(len(m.Harts))
		want, gone := model(m, script)
		got, e := machine.Run(m, script)
		if e != api.OK || got.Steps != want.Steps || !slices.Equal(got.Out, want.Out) {
			t.Fatalf("Run(%v, %v): %v, %v, want %v", m, script, got, e, want)
		}
		if !bytes.Equal(got.Machine.Memory, want.Machine.Memory) || !slices.Equal(got.Machine.Harts, want.Machine.Harts) {
			t.Fatalf("Run(%v, %v): %v, want %v", m, script, got.Machine, want.Machine)
		}
		steps, lost, out = steps+got.Steps, lost+gone, out+len(got.Out)
	}
	if steps < 100000 || lost < 2000 || out < 2000 {
		t.Errorf("%d steps, %d reservations lost, %d came out", steps, lost, out)
	}
}
