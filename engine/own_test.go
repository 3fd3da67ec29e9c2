package engine_test

import (
	"slices"
	"strconv"
	"testing"

	"ferrybridge/api"
)

// writer is a memory with a block from 16 on, that writes x6 by i at x5, and goes back to 16 at its end: 16 adds 1 to x8, 20 is i, 24 adds 10, 28 adds 100, 32 goes back; behind it nothing.
func writer(t *testing.T, i api.Ins) []byte {
	t.Helper()
	return lay(t, make([]byte, 64), 16, add(1), i, add(10), add(100), api.Ins{Op: api.JAL, Imm: -16})
}

// writes are instructions that store the word x6 at x5.
var writes = map[string]api.Ins{
	"SW":      {Op: api.SW, Rs1: 5, Rs2: 6},
	"AMOSWAP": {Op: api.AMOSWAP, Rd: 9, Rs1: 5, Rs2: 6},
	"SCW":     {Op: api.SCW, Rd: 9, Rs1: 5, Rs2: 6},
}

// TestOverItself: J2: a hart that writes over each word of the block that it is in (the instruction right behind, one behind that, one ahead of it, the writing one itself, the last one) and the word behind it does, from then on, what the new word says.
func TestOverItself(t *testing.T) {
	for name, i := range writes {
		for _, c := range []struct {
			at          uint32
			first, both uint32 // what x8 is behind five steps, and behind ten
			name        string
		}{
			{16, 111, 1221, "one ahead"},
			{20, 111, 1222, "itself"},
			{24, 1101, 2202, "right behind"},
			{28, 1011, 2022, "one behind that"},
			{36, 111, 222, "behind the block"},
			{12, 111, 222, "ahead of the block"},
		} {
			m := of(writer(t, i), held(hartAt(16, c.at, encoded(t, add(1000))), c.at))
			s := alike(t, name+" "+c.name, m, api.Pick{Steps: 5})
			if h := s.Machine.Harts[0]; h.Regs[8] != c.first || h.PC != 16 || s.Steps != 5 {
				t.Errorf("%s, %s, five steps: %v", name, c.name, h)
			}
			for _, script := range [][]api.Pick{{{Steps: 10}}, {{Steps: 5}, {Steps: 5}}, {{Steps: 2}, {Steps: 8}}, {{Steps: 6}, {Steps: 4}}, slices.Repeat([]api.Pick{{Steps: 1}}, 10), {{Steps: 1}, {Steps: 2}, {Steps: 7}}} {
				s := alike(t, name+" "+c.name, m, script...)
				if h := s.Machine.Harts[0]; h.Regs[8] != c.both || h.PC != 16 || h.State != api.Runs || s.Steps != 10 {
					t.Errorf("%s, %s, picks %v: %v", name, c.name, script, h)
				}
			}
		}
	}
}

// TestOverItsEnd: J2: with the last instruction of a block, that goes back, written over, the hart goes on behind it, where nothing is.
func TestOverItsEnd(t *testing.T) {
	for name, i := range writes {
		m := of(writer(t, i), held(hartAt(16, 32, encoded(t, add(1000))), 32))
		s := alike(t, name, m, api.Pick{Steps: 40})
		if h := s.Machine.Harts[0]; h.Regs[8] != 1111 || h.PC != 36 || h.Cause != api.CauseWord || s.Steps != 6 {
			t.Errorf("%s: %v", name, h)
		}
	}
}

// TestParts: J2: a byte and a half of a word of the hart's own block are enough: the upper half of the word has its Imm, the upper byte all of that but its lowest four bits.
func TestParts(t *testing.T) {
	w := encoded(t, add(1000))
	for _, c := range []struct {
		i     api.Ins
		x6    uint32
		first uint32
	}{
		{api.Ins{Op: api.SH, Rs1: 5, Rs2: 6, Imm: 2}, w >> 16, 1 + 1000 + 100},
		{api.Ins{Op: api.SB, Rs1: 5, Rs2: 6, Imm: 3}, w >> 24, 1 + 0x3e0 + 10 + 100},
		{api.Ins{Op: api.SB, Rs1: 5, Rs2: 6, Imm: 2}, w >> 16, 1 + 8 + 100},
		{api.Ins{Op: api.SH, Rs1: 5, Rs2: 6}, w, 1 + 10 + 100},
		{api.Ins{Op: api.SB, Rs1: 5, Rs2: 6}, w, 1 + 10 + 100},
		// Rd becomes x0: the lower half of the word has it, with Op.
		{api.Ins{Op: api.SH, Rs1: 5, Rs2: 6}, 19, 1 + 100},
	} {
		s := alike(t, "parts", of(writer(t, c.i), hartAt(16, 24, c.x6)), api.Pick{Steps: 5}, api.Pick{Steps: 3})
		if h := s.Machine.Harts[0]; h.Regs[8] != c.first+c.first-100 || s.Steps != 8 {
			t.Errorf("%v of %#x: %v", c.i, c.x6, h)
		}
	}
}

// TestOtherKinds: J2: the new word is of another kind: none at all, one that goes elsewhere, calls, breaks, or stores in turn.
func TestOtherKinds(t *testing.T) {
	for _, c := range []struct {
		name  string
		w     uint32
		steps int
		want  func(h *api.Hart)
	}{
		{"no instruction", 0, 3, func(h *api.Hart) { h.PC, h.State, h.Cause = 24, api.Trapped, api.CauseWord }},
		{"a jump", encoded(t, api.Ins{Op: api.JAL, Rd: 9, Imm: 20}), 4, func(h *api.Hart) { h.PC, h.Regs[9], h.State, h.Cause = 44, 28, api.Trapped, api.CauseWord }},
		{"a jump to an odd half", encoded(t, api.Ins{Op: api.JAL, Imm: 6}), 4, func(h *api.Hart) { h.PC, h.State, h.Cause = 30, api.Trapped, api.CauseFetch }},
		{"a branch that holds", encoded(t, api.Ins{Op: api.BEQ, Rs1: 5, Rs2: 5, Imm: 16}), 4, func(h *api.Hart) { h.PC, h.State, h.Cause = 40, api.Trapped, api.CauseWord }},
		{"a call that halts", encoded(t, api.Ins{Op: api.ECALL}), 3, func(h *api.Hart) { h.PC, h.State = 24, api.Halted }},
		{"a break", encoded(t, api.Ins{Op: api.EBREAK}), 3, func(h *api.Hart) { h.PC, h.State, h.Cause = 24, api.Trapped, api.CauseBreak }},
		{"a load that traps", encoded(t, api.Ins{Op: api.LH, Rd: 9, Imm: 1}), 3, func(h *api.Hart) { h.PC, h.State, h.Cause = 24, api.Trapped, api.CauseLoad }},
		{"a store over the next one", encoded(t, api.Ins{Op: api.SW, Rs1: 5, Rs2: 5, Imm: 4}), 4, func(h *api.Hart) { h.PC, h.State, h.Cause = 28, api.Trapped, api.CauseWord }},
	} {
		h := hartAt(16, 24, c.w)
		want := h
		want.Regs[8] = 1
		c.want(&want)
		s := alike(t, c.name, of(writer(t, writes["SW"]), h), api.Pick{Steps: 50})
		if s.Machine.Harts[0] != want || s.Steps != c.steps {
			t.Errorf("%s: %d steps, %v, want %v", c.name, s.Steps, s.Machine.Harts[0], want)
		}
	}
}

// TestAgainAndAgain: J2: a loop that makes its own next word another one each time round: n, n + 1 and so on is added.
func TestAgainAndAgain(t *testing.T) {
	m := lay(t, make([]byte, 64), 0, api.Ins{Op: api.ADD, Rd: 6, Rs1: 6, Rs2: 7}, api.Ins{Op: api.SW, Rs2: 6, Imm: 8}, add(0), api.Ins{Op: api.JAL, Imm: -12})
	h := hartAt(0, 0, encoded(t, add(0)))
	h.Regs[7] = 1 << 20
	for rounds := range uint32(40) {
		s := alike(t, "again", of(m, h), api.Pick{Steps: int(4 * rounds)})
		if got := s.Machine.Harts[0].Regs[8]; got != rounds*(rounds+1)/2 {
			t.Errorf("%d times round: %d", rounds, got)
		}
	}
}

// TestLonger: J2, J3: a block that ended where no instruction was is longer, once one is written there; what was kept of it is how the longer one begins.
func TestLonger(t *testing.T) {
	// 0 adds 1 and goes on to 4, where nothing is at first; 32 writes a word at 4, and goes to 0.
	m := lay(t, make([]byte, 64), 0, add(1))
	m = lay(t, m, 8, api.Ins{Op: api.ECALL})
	m = lay(t, m, 32, api.Ins{Op: api.SW, Rs2: 6, Imm: 4}, api.Ins{Op: api.JAL, Imm: -36})
	one, two := hartAt(0, 0, 0), hartAt(32, 0, encoded(t, add(1000)))
	s := alike(t, "longer", of(m, one, two, one), api.Pick{Steps: 2}, api.Pick{Hart: 2, Steps: 1}, api.Pick{Hart: 1, Steps: 9}, api.Pick{Hart: 2, Steps: 9})
	one, two, three := trapped(one, api.CauseWord), halted(two), halted(one)
	one.PC, two.PC, three.PC = 4, 8, 8
	one.Regs[8], two.Regs[8], three.Regs[8] = 1, 1001, 1001
	if want := []api.Hart{one, two, three}; !slices.Equal(s.Machine.Harts, want) || s.Steps != 2+5+3 {
		t.Errorf("%d steps, %v, want %v", s.Steps, s.Machine.Harts, want)
	}
}

// TestEachOthers: J2: a hart writes over the code of another one, that stands within a block, or ahead of one: each word of it, at each place at which the other one may stand.
func TestEachOthers(t *testing.T) {
	m := lay(t, make([]byte, 128), 0, add(1), add(2), add(4), add(8), add(16), api.Ins{Op: api.JAL, Imm: -20})
	m = lay(t, m, 64, api.Ins{Op: api.SW, Rs1: 5, Rs2: 6}, api.Ins{Op: api.JAL, Imm: -4})
	for at := range 5 {
		for stands := range 13 {
			want, row := uint32(0), []uint32{1, 2, 4, 8, 16, 0}
			for k := range 18 {
				if k == stands {
					row[at] = 1000
				}
				want += row[k%6]
			}
			name := "word " + strconv.Itoa(at) + " behind " + strconv.Itoa(stands) + " steps"
			harts := []api.Hart{hartAt(64, uint32(4*at), encoded(t, add(1000))), hartAt(0, 0, 0), hartAt(0, 0, 0)}
			s := alike(t, name, of(m, harts...), api.Pick{Hart: 2, Steps: 6}, api.Pick{Hart: 1, Steps: stands}, api.Pick{Hart: 0, Steps: 1}, api.Pick{Hart: 1, Steps: 18 - stands}, api.Pick{Hart: 2, Steps: 6})
			if h := s.Machine.Harts[1]; h.Regs[8] != want || h.PC != 0 || h.State != api.Runs {
				t.Errorf("%s: %v, want %d", name, h, want)
			}
			row = []uint32{1, 2, 4, 8, 16}
			row[at] = 1000
			if h := s.Machine.Harts[2]; h.Regs[8] != 31+row[0]+row[1]+row[2]+row[3]+row[4] {
				t.Errorf("%s: the third hart is %v", name, h)
			}
		}
	}
}

// TestOneByOne: J2: two harts that write each other's next word in turn, where both do one code, too.
func TestOneByOne(t *testing.T) {
	m := lay(t, make([]byte, 128), 0, add(1), api.Ins{Op: api.SW, Rs1: 5, Rs2: 6, Imm: 64}, add(2), api.Ins{Op: api.JAL, Imm: -12})
	m = lay(t, m, 64, add(3), api.Ins{Op: api.SW, Rs1: 5, Rs2: 6}, add(4), api.Ins{Op: api.JAL, Imm: -12})
	for at := uint32(0); at < 12; at += 8 {
		one, two := hartAt(0, at, encoded(t, add(100))), hartAt(64, at, encoded(t, add(1000)))
		for stride := 1; stride < 9; stride++ {
			script := slices.Repeat([]api.Pick{{Hart: 0, Steps: stride}, {Hart: 1, Steps: 2}, {Hart: 2, Steps: 3}, {Hart: 3, Steps: stride}}, 8)
			alike(t, "one by one", of(m, one, two, one, two), script...)
		}
	}
	s := alike(t, "by hand", of(m, hartAt(0, 8, encoded(t, add(100))), hartAt(64, 8, encoded(t, add(1000)))),
		api.Pick{Hart: 0, Steps: 2}, api.Pick{Hart: 1, Steps: 2}, api.Pick{Hart: 0, Steps: 2}, api.Pick{Hart: 1, Steps: 2})
	if a, b := s.Machine.Harts[0].Regs[8], s.Machine.Harts[1].Regs[8]; a != 1+1000 || b != 3+100 {
		t.Errorf("by hand: %d and %d", a, b)
	}
}
