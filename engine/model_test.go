package engine_test

import (
	"testing"

	"ferrybridge/api"
	"ferrybridge/machine"
)

// strewn is a row of numbers by a fixed rule.
type strewn uint32

func (s *strewn) next() uint32 {
	*s ^= *s << 13
	*s ^= *s >> 17
	*s ^= *s << 5
	return uint32(*s)
}

func (s *strewn) below(n uint32) uint32 { return s.next() >> 7 % n }

// ins is some instruction; x3 to x5 are places of the code itself, x6 is the word of an instruction.
func (s *strewn) ins() api.Ins {
	rd, place, w := int(7+s.below(4)), int(3+s.below(3)), int(5+s.below(6))
	switch s.below(14) {
	case 0:
		return api.Ins{Op: api.ADDI, Rd: place, Rs1: place, Imm: 4*int32(s.below(5)) - 8}
	case 1:
		return api.Ins{Op: api.LRW, Rd: rd, Rs1: place}
	case 2:
		return api.Ins{Op: api.SCW, Rd: rd, Rs1: place, Rs2: 6}
	case 3:
		return api.Ins{Op: int(api.AMOSWAP + s.below(9)), Rd: rd, Rs1: place, Rs2: w}
	case 4:
		return api.Ins{Op: api.SB, Rs1: place, Rs2: w, Imm: int32(s.below(16)) - 8}
	case 5:
		return api.Ins{Op: api.SH, Rs1: place, Rs2: w, Imm: 2*int32(s.below(8)) - 8}
	case 6:
		return api.Ins{Op: api.SW, Rs1: place, Rs2: 6, Imm: 4*int32(s.below(8)) - 16}
	case 7:
		return api.Ins{Op: int(api.BEQ + s.below(6)), Rs1: place, Rs2: w, Imm: 4*int32(s.below(17)) - 32}
	case 8:
		return api.Ins{Op: api.JAL, Rd: int(s.below(8)), Imm: 4*int32(s.below(17)) - 32}
	case 9:
		return api.Ins{Op: api.JALR, Rd: int(s.below(8)), Rs1: place, Imm: 4*int32(s.below(5)) - 8}
	case 10:
		return api.Ins{Op: api.LW, Rd: 6, Rs1: place, Imm: 4*int32(s.below(5)) - 8}
	case 11:
		return api.Ins{Op: []int{api.ECALL, api.ECALL, api.FENCE, api.EBREAK}[s.below(4)]}
	}
	return api.Ins{Op: int(api.ADD + s.below(18)), Rd: rd, Rs1: w, Rs2: rd}
}

// machine is some machine of harts that work on their own code, and on each other's.
func (s *strewn) machine(t *testing.T) api.Machine {
	t.Helper()
	m := make([]byte, 4*(8+s.below(24)))
	for at := 0; at < len(m); at += 4 {
		put(m, at, encoded(t, s.ins()))
		if s.below(30) == 0 {
			put(m, at, s.next())
		}
	}
	m = m[:len(m)-int(s.below(2)*s.below(4))]
	words := uint32(len(m) / 4)
	harts := make([]api.Hart, 1+s.below(api.MaxHarts))
	for k := range harts {
		h := &harts[k]
		for r := 1; r < 32; r++ {
			h.Regs[r] = 4 * s.below(words)
		}
		h.Regs[6], h.Regs[17] = encoded(t, s.ins()), 1-s.below(12)/11
		h.PC = 4 * s.below(words)
		switch s.below(8) {
		case 0, 1, 2:
			*h = held(*h, 4*s.below(words)+s.below(2)*s.below(4))
		case 3:
			*h = held(*h, ones-s.below(6))
		case 4:
			*h = trapped(held(*h, 4*s.below(words)), api.CauseWord)
		}
	}
	return of(m, harts...)
}

// script is some script of up to 20 picks for so many harts.
func (s *strewn) script(harts int) []api.Pick {
	var script []api.Pick
	for range s.below(21) {
		script = append(script, api.Pick{Hart: int(s.below(uint32(harts))), Steps: int(s.below(2 + s.below(30)))})
	}
	return script
}

// TestModel: J2, J3: many machines and scripts, with many rooms, against machine.Run; stale and pushed out blocks among them.
func TestModel(t *testing.T) {
	s := strewn(20261118)
	steps, stale, pushed, out := 0, 0, 0, 0
	for range 12000 {
		m := s.machine(t)
		script := s.script(len(m.Harts))
		want := alike(t, "strewn", m, script...)
		room := int(s.below(8))
		got, c := run(t, "strewn", m, script, room)
		if !sameShown(got, want) {
			t.Errorf("room %d: shows %v, want %v", room, got, want)
		}
		if t.Failed() {
			t.Fatalf("of %v, script %v", m, script)
		}
		steps, stale, pushed, out = steps+got.Steps, stale+c.Stale, pushed+c.Pushed, out+len(got.Out)
	}
	if steps < 100000 || out < 2000 {
		t.Errorf("%d steps, %d came out", steps, out)
	}
	t.Logf("%d steps, %d stale, %d pushed out, %d came out", steps, stale, pushed, out)
}

// TestStepByStep: J2, J3: each beginning of a script's steps: nothing stale is kept at any moment, not at the end alone.
func TestStepByStep(t *testing.T) {
	s := strewn(5)
	for range 400 {
		m := s.machine(t)
		script := s.script(len(m.Harts))
		for k, p := range script {
			for steps := range p.Steps {
				alike(t, "step by step", m, append(script[:k:k], api.Pick{Hart: p.Hart, Steps: steps})...)
			}
			if t.Failed() {
				t.Fatalf("of %v, script %v", m, script)
			}
		}
	}
}

// TestCutInTwo: J2: a script that is cut in two, with nothing kept between, shows the same.
func TestCutInTwo(t *testing.T) {
	s := strewn(7)
	for range 200 {
		m := s.machine(t)
		script := s.script(len(m.Harts))
		whole, _ := machine.Run(m, script)
		for cut := range len(script) + 1 {
			first, _ := run(t, "first", m, script[:cut], api.MaxBlocks)
			second, _ := run(t, "second", first.Machine, script[cut:], api.MaxBlocks)
			second.Out = append(first.Out, second.Out...)
			second.Steps += first.Steps
			if !sameShown(second, whole) {
				t.Fatalf("cut at %d: %v, want %v", cut, second, whole)
			}
		}
	}
}
