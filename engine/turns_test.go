package engine_test

import (
	"bytes"
	"slices"
	"strconv"
	"testing"

	"ferrybridge/api"
)

// TestEndsWithin: J2: a hart that halts or traps within a block does nothing behind that, in this pick or a later one; the step that ended it counts, and what came ahead of it stays.
func TestEndsWithin(t *testing.T) {
	for name, c := range map[string]struct {
		last         api.Ins
		x17          uint32
		state, cause int
	}{
		"halts":          {api.Ins{Op: api.ECALL}, 0, api.Halted, 0},
		"a call":         {api.Ins{Op: api.ECALL}, 2, api.Trapped, api.CauseCall},
		"a break":        {api.Ins{Op: api.EBREAK}, 1, api.Trapped, api.CauseBreak},
		"a load":         {api.Ins{Op: api.LW, Rd: 8, Imm: 2}, 1, api.Trapped, api.CauseLoad},
		"a load, far":    {api.Ins{Op: api.LB, Rd: 8, Imm: -1}, 1, api.Trapped, api.CauseLoad},
		"a load, LRW":    {api.Ins{Op: api.LRW, Rd: 8, Rs1: 17}, 1, api.Trapped, api.CauseLoad},
		"a store":        {api.Ins{Op: api.SW, Rs2: 8, Imm: 64}, 1, api.Trapped, api.CauseStore},
		"a store, SH":    {api.Ins{Op: api.SH, Rs2: 8, Imm: 13}, 1, api.Trapped, api.CauseStore},
		"a store, SCW":   {api.Ins{Op: api.SCW, Rd: 8, Rs1: 17}, 1, api.Trapped, api.CauseStore},
		"a store, AMOOR": {api.Ins{Op: api.AMOOR, Rd: 8, Rs1: 17}, 1, api.Trapped, api.CauseStore},
	} {
		m := lay(t, make([]byte, 64), 0, add(1), api.Ins{Op: api.SW, Rs1: 5, Rs2: 6}, c.last, add(10), add(100))
		h := held(hartAt(0, 48, 0x01020304), 48)
		h.Regs[17] = c.x17
		want := h
		want.PC, want.Regs[8], want.State, want.Cause = 8, 1, c.state, c.cause
		memory := bytes.Clone(m)
		put(memory, 48, 0x01020304)
		for _, script := range [][]api.Pick{
			{{Steps: 3}}, {{Steps: 4}}, {{Steps: api.MaxSteps}}, {{Steps: 1}, {Steps: 1}, {Steps: 1}}, {{Steps: 1}, {Steps: 0}, {Steps: 2}},
			{{Steps: 2}, {Steps: 9}}, {{Steps: 400}, {Steps: 0}, {Steps: 400}}, slices.Repeat([]api.Pick{{Steps: 2}}, api.MaxScript),
		} {
			s := alike(t, name, of(m, h), script...)
			if s.Steps != 3 || s.Machine.Harts[0] != want || !bytes.Equal(s.Machine.Memory, memory) || len(s.Out) != 0 {
				t.Errorf("%s, %d picks: %d steps, %v, want %v", name, len(script), s.Steps, s.Machine.Harts[0], want)
			}
		}
	}
}

// TestNoWord: J2: a hart that comes to where no word or no instruction is traps there, and that is a step; with nothing else done, nothing is kept.
func TestNoWord(t *testing.T) {
	long := lay(t, make([]byte, 12), 0, add(1), add(1))
	for _, c := range []struct {
		name  string
		m     []byte
		pc    uint32
		cause int
		steps int
		end   uint32
	}{
		{"no memory", nil, 0, api.CauseFetch, 1, 0},
		{"an empty memory", []byte{}, 0, api.CauseFetch, 1, 0},
		{"behind the memory", long[:8], 0, api.CauseFetch, 3, 8},
		{"half a word", long[:10], 0, api.CauseFetch, 3, 8},
		{"no instruction", long, 0, api.CauseWord, 3, 8},
		{"no instruction at once", long, 8, api.CauseWord, 1, 8},
		{"an odd place", long, 2, api.CauseFetch, 1, 2},
		{"a high place", long, ones - 3, api.CauseFetch, 1, ones - 3},
	} {
		s := alike(t, c.name, of(c.m, api.Hart{PC: c.pc}), api.Pick{Steps: 9}, api.Pick{Steps: 9})
		want := trapped(api.Hart{PC: c.end}, c.cause)
		want.Regs[8] = uint32(c.steps - 1)
		if s.Steps != c.steps || s.Machine.Harts[0] != want {
			t.Errorf("%s: %d steps, %v", c.name, s.Steps, s.Machine.Harts[0])
		}
		if _, kept := run(t, c.name, of(c.m, api.Hart{PC: c.pc}), []api.Pick{{Steps: 9}}, api.MaxBlocks); c.steps == 1 && len(kept.Blocks) != 0 {
			t.Errorf("%s: %v is kept", c.name, kept)
		}
	}
}

// TestLongest: J2: code that goes on for longer than a block has instructions, up to the memory's end.
func TestLongest(t *testing.T) {
	m := lay(t, nil, 0)
	for range api.MaxMemory / 4 {
		m = append(m, 0, 0, 0, 0)
		put(m, len(m)-4, encoded(t, add(1)))
	}
	script := []api.Pick{{Steps: api.MaxBlock - 1}, {Steps: 1}, {Steps: 1}, {Steps: api.MaxBlock}, {Steps: 400}, {Steps: 400}, {Steps: 400}}
	s := alike(t, "the longest", of(m, api.Hart{}), script...)
	want := trapped(api.Hart{PC: api.MaxMemory}, api.CauseFetch)
	want.Regs[8] = api.MaxMemory / 4
	if s.Steps != api.MaxMemory/4+1 || s.Machine.Harts[0] != want {
		t.Errorf("%d steps, %v", s.Steps, s.Machine.Harts[0])
	}
}

// TestOut: J2: what came out, in order, of calls at the ends of blocks, of harts that take turns.
func TestOut(t *testing.T) {
	m := lay(t, make([]byte, 64), 0, api.Ins{Op: api.ECALL}, api.Ins{Op: api.ADDI, Rd: 10, Rs1: 10, Imm: 1}, api.Ins{Op: api.JAL, Imm: -8})
	one, two := api.Hart{}, api.Hart{}
	one.Regs[10], one.Regs[17], two.Regs[10], two.Regs[17] = 100, 1, 200, 1
	for _, c := range []struct {
		script []api.Pick
		out    []uint32
	}{
		{nil, nil},
		{[]api.Pick{{Hart: 0}, {Hart: 1}}, nil},
		{[]api.Pick{{Hart: 1, Steps: 1}}, []uint32{200}},
		{[]api.Pick{{Hart: 1, Steps: 3}}, []uint32{200}},
		{[]api.Pick{{Hart: 0, Steps: 8}}, []uint32{100, 101, 102}},
		{[]api.Pick{{Hart: 1, Steps: 1}, {Hart: 0, Steps: 4}, {Hart: 1, Steps: 2}, {Hart: 1, Steps: 1}, {Hart: 0, Steps: 3}}, []uint32{200, 100, 101, 201, 102}},
	} {
		if s := alike(t, "out", of(m, one, two), c.script...); !slices.Equal(s.Out, c.out) {
			t.Errorf("%v: %v", c.script, s.Out)
		}
	}
}

// TestNotRunning: J2: harts that do not run from the beginning do nothing; others go on beside them.
func TestNotRunning(t *testing.T) {
	m := counting(t, 4)
	m.Harts = []api.Hart{halted(held(hartAt(0, 1, 2), 12)), trapped(hartAt(0, 3, 4), api.CauseWord), {}, trapped(held(api.Hart{}, ones), api.CauseBreak)}
	s := alike(t, "not running", m, api.Pick{Hart: 0, Steps: 5}, api.Pick{Hart: 1, Steps: 400}, api.Pick{Hart: 2, Steps: 7}, api.Pick{Hart: 3, Steps: 1}, api.Pick{Hart: 0, Steps: 1})
	want := slices.Clone(m.Harts)
	want[2].PC, want[2].Regs[8] = 4, 4
	if s.Steps != 7 || !slices.Equal(s.Machine.Harts, want) {
		t.Errorf("%d steps, %v", s.Steps, s.Machine.Harts)
	}
	for name, m := range map[string]api.Machine{"halted": of(m.Memory, m.Harts[0]), "trapped": of(m.Memory, m.Harts[1])} {
		for _, room := range rooms {
			if _, c := run(t, name, m, []api.Pick{{Steps: 9}}, room); len(c.Blocks) != 0 {
				t.Errorf("%s: %v is kept", name, c)
			}
		}
	}
}

// TestPicksWithin: J2: picks that end within a block, at each place of it, and go on there, two harts in one block, each with its own x8.
func TestPicksWithin(t *testing.T) {
	m := lay(t, make([]byte, 64), 0, add(1), add(10), add(100), add(1000), api.Ins{Op: api.BNE, Rs1: 8, Rs2: 5, Imm: -16}, api.Ins{Op: api.EBREAK})
	sums := []uint32{0, 1, 11, 111, 1111, 1111, 1112, 1122, 1222, 2222, 2222, 2222, 2222}
	ends := []uint32{0, 4, 8, 12, 16, 0, 4, 8, 12, 16, 20, 20, 20}
	h := hartAt(0, 2222, 0)
	for a := range 13 {
		for b := range 13 - a {
			name := strconv.Itoa(a) + " and " + strconv.Itoa(b)
			s := alike(t, name, of(m, h, h), api.Pick{Steps: a}, api.Pick{Hart: 1, Steps: b}, api.Pick{Steps: b})
			for k, steps := range []int{a + b, b} {
				if got := s.Machine.Harts[k]; got.Regs[8] != sums[steps] || got.PC != ends[steps] || (got.Cause == api.CauseBreak) != (steps > 10) {
					t.Errorf("%s: hart %d is %v", name, k, got)
				}
			}
		}
	}
}

// locked is a memory with a block from 0 on that reserves the word at x5, adds 1 to it, and stores it, if it is still reserved; x9 says whether it was.
func locked(t *testing.T) []byte {
	t.Helper()
	return lay(t, make([]byte, 256), 0,
		api.Ins{Op: api.LRW, Rd: 7, Rs1: 5}, api.Ins{Op: api.ADDI, Rd: 7, Rs1: 7, Imm: 1}, api.Ins{Op: api.SCW, Rd: 9, Rs1: 5, Rs2: 7}, add(1), api.Ins{Op: api.EBREAK})
}

// TestReserved: J2: a word that is reserved within a block is lost by a store of another hart in one of its bytes, within a block of its own; by others it is not.
func TestReserved(t *testing.T) {
	for name, c := range map[string]struct {
		i   api.Ins
		met bool
	}{
		"FENCE":          {api.Ins{Op: api.FENCE}, true},
		"LW there":       {api.Ins{Op: api.LW, Rd: 7, Rs1: 5}, true},
		"LRW there":      {api.Ins{Op: api.LRW, Rd: 7, Rs1: 5}, true},
		"SCW, not held":  {api.Ins{Op: api.SCW, Rd: 7, Rs1: 5, Rs2: 6}, true},
		"SB there":       {api.Ins{Op: api.SB, Rs1: 5, Rs2: 6}, false},
		"SB, its last":   {api.Ins{Op: api.SB, Rs1: 5, Rs2: 6, Imm: 3}, false},
		"SB behind it":   {api.Ins{Op: api.SB, Rs1: 5, Rs2: 6, Imm: 4}, true},
		"SB ahead of it": {api.Ins{Op: api.SB, Rs1: 5, Rs2: 6, Imm: -1}, true},
		"SH there":       {api.Ins{Op: api.SH, Rs1: 5, Rs2: 6, Imm: 2}, false},
		"SH behind it":   {api.Ins{Op: api.SH, Rs1: 5, Rs2: 6, Imm: 4}, true},
		"SW there":       {api.Ins{Op: api.SW, Rs1: 5, Rs2: 6}, false},
		"SW behind it":   {api.Ins{Op: api.SW, Rs1: 5, Rs2: 6, Imm: 4}, true},
		"SW that traps":  {api.Ins{Op: api.SW, Rs1: 5, Rs2: 6, Imm: 2}, true},
		"AMOADD there":   {api.Ins{Op: api.AMOADD, Rs1: 5, Rs2: 6}, false},
		"AMOOR there":    {api.Ins{Op: api.AMOOR, Rs1: 5}, false},
	} {
		m := lay(t, locked(t), 64, add(5), c.i, add(6), api.Ins{Op: api.EBREAK})
		for _, stands := range []int{1, 2} {
			one, two := hartAt(0, 128, 0), hartAt(64, 128, 0x0a0b0c0d)
			s := alike(t, name, of(m, one, two), api.Pick{Hart: 0, Steps: stands}, api.Pick{Hart: 1, Steps: 4}, api.Pick{Hart: 0, Steps: 9})
			h := s.Machine.Harts[0]
			if (h.Regs[9] == 0) != c.met || (wordAt(s.Machine.Memory, 128) == 1) != c.met || h.Held || h.PC != 16 {
				t.Errorf("%s: %v, %d", name, h, wordAt(s.Machine.Memory, 128))
			}
		}
	}
}

// TestReservedByBoth: J2: two harts that add to one word, each by its reservation: of two that meet within the block one stores.
func TestReservedByBoth(t *testing.T) {
	h := hartAt(0, 128, 0)
	for a := range 6 {
		for b := range 6 {
			s := alike(t, "both", of(locked(t), h, h), api.Pick{Hart: 0, Steps: a}, api.Pick{Hart: 1, Steps: b}, api.Pick{Hart: 0, Steps: 9}, api.Pick{Hart: 1, Steps: 9})
			stored := 2 - s.Machine.Harts[0].Regs[9] - s.Machine.Harts[1].Regs[9]
			apart := a >= 3 || b == 0 || a == 0 && b >= 3
			if got := wordAt(s.Machine.Memory, 128); got != stored || (stored == 2) != apart {
				t.Errorf("%d and %d steps: the word is %d, stored %d times", a, b, got, stored)
			}
		}
	}
}

// TestOwnStays: J2: a hart's own stores within a block leave its own reservation, and take those of others that do not even run.
func TestOwnStays(t *testing.T) {
	m := lay(t, make([]byte, 256), 0, api.Ins{Op: api.LRW, Rd: 7, Rs1: 5}, api.Ins{Op: api.SW, Rs1: 5, Rs2: 6}, api.Ins{Op: api.SCW, Rd: 9, Rs1: 5, Rs2: 5}, api.Ins{Op: api.EBREAK})
	h, other := hartAt(0, 128, 77), hartAt(0, 1, 2)
	for steps, want := range []uint32{0, 0, 77, 128, 128} {
		s := alike(t, "own", of(m, held(halted(other), 131), h, held(trapped(other, api.CauseCall), 125), held(other, 132)), api.Pick{Hart: 1, Steps: steps})
		got := s.Machine.Harts
		if wordAt(s.Machine.Memory, 128) != want || got[1].Held != (steps == 1 || steps == 2) || got[1].Regs[9] != 0 {
			t.Errorf("%d steps: %v", steps, got[1])
		}
		if got[0].Held != (steps < 2) || got[2].Held != (steps < 2) || got[3] != held(other, 132) {
			t.Errorf("%d steps: %v", steps, got)
		}
	}
}

// TestMostSteps: J2: MaxScript picks of MaxSteps each, that store in the longest memory, are all done.
func TestMostSteps(t *testing.T) {
	m := lay(t, make([]byte, api.MaxMemory), 0, api.Ins{Op: api.AMOADD, Rs1: 5, Rs2: 6}, api.Ins{Op: api.JAL, Imm: -4})
	script := slices.Repeat([]api.Pick{{Steps: api.MaxSteps}}, api.MaxScript)
	s := alike(t, "all that can be", of(m, hartAt(0, api.MaxMemory-4, 3)), script...)
	const all = api.MaxScript * api.MaxSteps
	if s.Steps != all || wordAt(s.Machine.Memory, api.MaxMemory-4) != 3*all/2 {
		t.Errorf("%d steps, %d", s.Steps, wordAt(s.Machine.Memory, api.MaxMemory-4))
	}
}
