package undo_test

import (
	"slices"
	"testing"

	"ferrybridge/api"
	"ferrybridge/decode"
	"ferrybridge/hart"
	"ferrybridge/machine"
	"ferrybridge/mem"
)

// A model of the chapter: step by step by hart.Step, with each store told from the instruction ahead of it, and reservations lost byte by byte; and the machine ahead of each step kept whole.

// stored is where a step that was done from h on m stored, and in how many bytes; after is the hart behind it.
func stored(h api.Hart, m []byte, after api.Hart) (uint32, uint32) {
	w, ok := mem.Load(m, api.LW, h.PC)
	i, is := decode.Decode(w)
	if !ok || !is || after.State != api.Runs {
		return 0, 0
	}
	a := h.Regs[i.Rs1]
	switch {
	case i.Op == api.SB:
		return a + uint32(i.Imm), 1
	case i.Op == api.SH:
		return a + uint32(i.Imm), 2
	case i.Op == api.SW:
		return a + uint32(i.Imm), 4
	case i.Op == api.SCW && h.Held && h.HeldAt == a, i.Op >= api.AMOSWAP && i.Op <= api.AMOMAXU:
		return a, 4
	}
	return 0, 0
}

// touches tells, byte by byte, whether a store meets a word.
func touches(at, size, word uint32) bool {
	for k := range int64(size) {
		for l := range int64(4) {
			if int64(at)+k == int64(word)+l {
				return true
			}
		}
	}
	return false
}

// model tells the machine ahead of each step of a script, and behind the last one, and the Undo of each step.
func model(m api.Machine, script []api.Pick) ([]api.Machine, []api.Undo) {
	now := copyOf(m)
	all, l := []api.Machine{copyOf(m)}, []api.Undo{}
	for _, p := range script {
		for range p.Steps {
			h := now.Harts[p.Hart]
			after, memory, _, ok := hart.Step(h, now.Memory)
			if !ok {
				break
			}
			at, size := stored(h, now.Memory, after)
			u := api.Undo{Hart: p.Hart, Was: h}
			if size > 0 {
				u.From, u.Bytes = at, slices.Clone(now.Memory[at:at+size])
			}
			for k, other := range now.Harts {
				if k != p.Hart && other.Held && touches(at, size, other.HeldAt) {
					u.Lost = append(u.Lost, api.Lost{Hart: k, At: other.HeldAt})
					now.Harts[k].Held, now.Harts[k].HeldAt = false, 0
				}
			}
			now.Harts[p.Hart], now.Memory = after, memory
			all, l = append(all, copyOf(now)), append(l, u)
		}
	}
	return all, l
}

// checkAllBack holds a run against the model, and Back by each number of its steps against the machine as it was (L3).
func checkAllBack(t *testing.T, name string, m api.Machine, script []api.Pick) []api.Undo {
	t.Helper()
	all, want := model(m, script)
	s, l := run(t, name, m, script...)
	if !slices.EqualFunc(l, want, sameUndo) {
		t.Fatalf("%s: Undos %v, want %v, of %v, script %v", name, l, want, m, script)
	}
	for steps := range len(l) + 1 {
		if got := back(t, name, s.Machine, l, steps); !sameMachine(got, all[len(l)-steps]) {
			t.Fatalf("%s: %d steps back %v, want %v, of %v, script %v", name, steps, got, all[len(l)-steps], m, script)
		}
	}
	return l
}

// strewn is a row of numbers by a fixed rule.
type strewn uint32

func (s *strewn) next() uint32 {
	*s ^= *s << 13
	*s ^= *s >> 17
	*s ^= *s << 5
	return uint32(*s)
}

func (s *strewn) below(n uint32) uint32 { return s.next() >> 7 % n }

// ins is some instruction; x3 to x5 are places of the code itself, x6 is the word of an instruction.
func (s *strewn) ins() api.Ins {
	rd, place, w := int(7+s.below(4)), int(3+s.below(3)), int(5+s.below(6))
	switch s.below(15) {
	case 0:
		return api.Ins{Op: api.ADDI, Rd: place, Rs1: place, Imm: 4*int32(s.below(5)) - 8}
	case 1, 2:
		return api.Ins{Op: api.LRW, Rd: rd, Rs1: place}
	case 3:
		return api.Ins{Op: api.SCW, Rd: rd, Rs1: place, Rs2: 6}
	case 4:
		return api.Ins{Op: int(api.AMOSWAP + s.below(9)), Rd: rd, Rs1: place, Rs2: w}
	case 5:
		return api.Ins{Op: api.SB, Rs1: place, Rs2: w, Imm: int32(s.below(16)) - 8}
	case 6:
		return api.Ins{Op: api.SH, Rs1: place, Rs2: w, Imm: 2*int32(s.below(8)) - 8}
	case 7, 8:
		return api.Ins{Op: api.SW, Rs1: place, Rs2: 6, Imm: 4*int32(s.below(8)) - 16}
	case 9:
		return api.Ins{Op: int(api.BEQ + s.below(6)), Rs1: place, Rs2: w, Imm: 4*int32(s.below(17)) - 32}
	case 10:
		return api.Ins{Op: api.JAL, Rd: int(s.below(8)), Imm: 4*int32(s.below(17)) - 32}
	case 11:
		return api.Ins{Op: api.LW, Rd: 6, Rs1: place, Imm: 4*int32(s.below(5)) - 8}
	case 12:
		return api.Ins{Op: []int{api.ECALL, api.ECALL, api.FENCE, api.EBREAK}[s.below(4)]}
	}
	return api.Ins{Op: int(api.ADD + s.below(18)), Rd: rd, Rs1: w, Rs2: rd}
}

// machine is some machine of harts that work on their own code and on each other's, and reserve words of it.
func (s *strewn) machine(t *testing.T) api.Machine {
	t.Helper()
	m := make([]byte, 4*(8+s.below(24)))
	for at := 0; at < len(m); at += 4 {
		put(m, at, encoded(t, s.ins()))
		if s.below(30) == 0 {
			put(m, at, s.next())
		}
	}
	m = m[:len(m)-int(s.below(2)*s.below(4))]
	words := uint32(len(m) / 4)
	base := 4 * s.below(words)
	harts := make([]api.Hart, 1+s.below(api.MaxHarts))
	for k := range harts {
		h := &harts[k]
		for r := 1; r < 32; r++ {
			h.Regs[r] = base + 4*s.below(4)
		}
		h.Regs[6], h.Regs[17] = encoded(t, s.ins()), 1-s.below(12)/11
		h.PC = 4 * s.below(words)
		switch s.below(8) {
		case 0, 1, 2:
			*h = held(*h, base+s.below(16))
		case 3:
			*h = held(*h, ones-s.below(6))
		case 4:
			*h = trapped(held(*h, base), api.CauseWord)
		}
	}
	return of(m, harts...)
}

// script is some script of up to 12 picks for so many harts.
func (s *strewn) script(harts int) []api.Pick {
	var script []api.Pick
	for range s.below(13) {
		script = append(script, api.Pick{Hart: int(s.below(uint32(harts))), Steps: int(s.below(2 + s.below(12)))})
	}
	return script
}

// TestModel: L1 and L3: many machines and scripts, by each number of steps.
func TestModel(t *testing.T) {
	s := strewn(12)
	steps, kinds, several := 0, [3]int{}, 0
	for range 8000 {
		m := s.machine(t)
		l := checkAllBack(t, "strewn", m, s.script(len(m.Harts)))
		steps += len(l)
		for _, u := range l {
			if len(u.Bytes) > 0 {
				kinds[len(u.Bytes)/2]++
			}
			if len(u.Lost) > 1 {
				several++
			}
		}
	}
	if steps < 50000 || slices.Min(kinds[:]) < 1000 || several < 100 {
		t.Errorf("%d steps, stores by size %v, %d made several lose", steps, kinds, several)
	}
}

// TestBackAndOn: L3: what is taken back was never done: the rest of the script, done again from there, shows the same and tells the same.
func TestBackAndOn(t *testing.T) {
	s := strewn(3)
	for range 300 {
		m := s.machine(t)
		script := s.script(len(m.Harts))
		whole, l := run(t, "whole", m, script...)
		for cut := range len(script) + 1 {
			first, _ := run(t, "first", m, script[:cut]...)
			again := back(t, "back", whole.Machine, l, whole.Steps-first.Steps)
			if !sameMachine(again, first.Machine) {
				t.Fatalf("cut at %d: %v, want %v", cut, again, first.Machine)
			}
			rest, tail := run(t, "rest", again, script[cut:]...)
			if !sameMachine(rest.Machine, whole.Machine) || !slices.EqualFunc(tail, l[first.Steps:], sameUndo) {
				t.Fatalf("cut at %d: %v, want %v", cut, rest.Machine, whole.Machine)
			}
		}
	}
}

// TestBackInParts: L3: two Backs, the second one of what the first leaves of the list, are one Back by both numbers of steps.
func TestBackInParts(t *testing.T) {
	s := strewn(9)
	for range 200 {
		m := s.machine(t)
		shown, l := run(t, "whole", m, s.script(len(m.Harts))...)
		for steps := range len(l) + 1 {
			half := back(t, "first part", shown.Machine, l, steps)
			if got := back(t, "second part", half, l[:len(l)-steps], len(l)-steps); !sameMachine(got, m) {
				t.Fatalf("cut at %d: %v, want %v", steps, got, m)
			}
		}
	}
}

// TestOverItself: L3: a program that writes over its own next word, and over the one that it stands on, is the old one again.
func TestOverItself(t *testing.T) {
	m := filled(t,
		api.Ins{Op: api.SW, Rs1: 5, Rs2: 6, Imm: 4},
		api.Ins{Op: api.EBREAK},
		api.Ins{Op: api.SB, Rs1: 5, Rs2: 7, Imm: 8},
		api.Ins{Op: api.AMOSWAP, Rd: 9, Rs1: 8, Rs2: 6},
		api.Ins{Op: api.JAL, Imm: -16},
	)
	h := storer(0, encoded(t, api.Ins{Op: api.ADDI, Rd: 10, Rs1: 10, Imm: 1}))
	h.Regs[7], h.Regs[8], h.Regs[10] = 0x13, 16, 0
	l := checkAllBack(t, "over itself", of(m, h), []api.Pick{{Hart: 0, Steps: 7}})
	want := []api.Undo{{From: 4, Bytes: m[4:8]}, {}, {From: 8, Bytes: m[8:9]}, {From: 16, Bytes: m[16:20]}, {}, {}}
	if len(l) < len(want) {
		t.Fatalf("%d steps", len(l))
	}
	for k, u := range want {
		if l[k].From != u.From || !slices.Equal(l[k].Bytes, u.Bytes) {
			t.Errorf("step %d: %v, want %v", k, l[k], u)
		}
	}
}

// TestReservers: L3: four harts that add 1 to one word by LRW and SCW, cut off from each other anywhere.
func TestReservers(t *testing.T) {
	m := filled(t,
		api.Ins{Op: api.LRW, Rd: 7, Rs1: 5},
		api.Ins{Op: api.ADDI, Rd: 7, Rs1: 7, Imm: 1},
		api.Ins{Op: api.SCW, Rd: 8, Rs1: 5, Rs2: 7},
		api.Ins{Op: api.JAL, Imm: -12},
	)
	put(m, 128, 0)
	harts := slices.Repeat([]api.Hart{storer(128, 0)}, api.MaxHarts)
	var script []api.Pick
	for k := range 60 {
		script = append(script, api.Pick{Hart: k * k % 7 % api.MaxHarts, Steps: 1 + k%5})
	}
	l := checkAllBack(t, "reservers", of(m, harts...), script)
	lost := 0
	for _, u := range l {
		lost += len(u.Lost)
	}
	if lost < 10 {
		t.Errorf("%d lost", lost)
	}
}

// TestLongest: L1 and L3: the longest script that there may be, all of whose steps store in the last byte of the greatest memory, or go back for it.
func TestLongest(t *testing.T) {
	memory := lay(t, make([]byte, api.MaxMemory), 0,
		api.Ins{Op: api.ADDI, Rd: 6, Rs1: 6, Imm: 1},
		api.Ins{Op: api.SB, Rs1: 5, Rs2: 6},
		api.Ins{Op: api.JAL, Imm: -8},
	)
	m := of(memory, storer(api.MaxMemory-1, 0), held(full(2), api.MaxMemory-4))
	script := slices.Repeat([]api.Pick{{Hart: 0, Steps: api.MaxSteps}}, api.MaxScript)
	s, l := run(t, "longest", m, script...)
	if len(l) != api.MaxScript*api.MaxSteps {
		t.Fatalf("%d Undos", len(l))
	}
	for _, steps := range []int{0, 1, 2, 3, api.MaxSteps, len(l) / 2, len(l) - 2, len(l) - 1, len(l)} {
		done := len(l) - steps
		ahead := append(slices.Clone(script[:done/api.MaxSteps]), api.Pick{Hart: 0, Steps: done % api.MaxSteps})[:min(done/api.MaxSteps+1, api.MaxScript)]
		want, e := machine.Run(m, ahead)
		if e != api.OK || want.Steps != done {
			t.Fatalf("%d steps ahead: %d, error %v", done, want.Steps, e)
		}
		if got := back(t, "longest", s.Machine, l, steps); !sameMachine(got, want.Machine) {
			t.Errorf("%d steps back: %v", steps, got.Harts)
		}
	}
	checkBackWrong(t, "longest", s.Machine, l, len(l)+1, api.ErrRange)
}
