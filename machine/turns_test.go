package machine_test

import (
	"bytes"
	"slices"
	"strconv"
	"testing"

	"ferrybridge/api"
)

// TestAdders: E2: the chapter's example: the word is how often both harts added to it.
func TestAdders(t *testing.T) {
	m := lay(t, make([]byte, 16), 0, api.Ins{Op: api.AMOADD, Rd: 3, Rs1: 2, Rs2: 1}, api.Ins{Op: api.JAL, Imm: -4})
	h := api.Hart{}
	h.Regs[1], h.Regs[2] = 1, 8
	both := api.Machine{Memory: m, Harts: []api.Hart{h, h}}
	for _, c := range []struct {
		script []api.Pick
		word   uint32
		steps  int
		x3     [2]uint32
		pc     [2]uint32
	}{
		{nil, 0, 0, [2]uint32{0, 0}, [2]uint32{0, 0}},
		{[]api.Pick{{Hart: 0, Steps: 1}, {Hart: 1, Steps: 1}}, 2, 2, [2]uint32{0, 1}, [2]uint32{4, 4}},
		{[]api.Pick{{Hart: 1, Steps: 1}, {Hart: 0, Steps: 1}}, 2, 2, [2]uint32{1, 0}, [2]uint32{4, 4}},
		{[]api.Pick{{Hart: 0, Steps: 4}, {Hart: 1, Steps: 3}, {Hart: 0, Steps: 1}}, 5, 8, [2]uint32{4, 3}, [2]uint32{4, 4}},
		{[]api.Pick{{Hart: 1, Steps: 400}, {Hart: 0, Steps: 400}}, 400, 800, [2]uint32{399, 199}, [2]uint32{0, 0}},
		{slices.Repeat([]api.Pick{{Hart: 0, Steps: 2}, {Hart: 1, Steps: 1}}, 100), 150, 300, [2]uint32{149, 148}, [2]uint32{0, 0}},
	} {
		s := run(t, "adders", both, c.script...)
		name := strconv.Itoa(len(c.script)) + " picks"
		if wordAt(s.Machine.Memory, 8) != c.word || s.Steps != c.steps || len(s.Out) != 0 {
			t.Errorf("%s: %v", name, s)
		}
		for k, h := range s.Machine.Harts {
			if h.Regs[3] != c.x3[k] || h.PC != c.pc[k] {
				t.Errorf("%s: hart %d is %v", name, k, h)
			}
		}
	}
}

// TestMostSteps: E2: MaxScript picks of MaxSteps each, that store in the longest memory, are all done.
func TestMostSteps(t *testing.T) {
	m := lay(t, make([]byte, api.MaxMemory), 0, api.Ins{Op: api.AMOADD, Rs1: 2, Rs2: 1}, api.Ins{Op: api.JAL, Imm: -4})
	h := api.Hart{}
	h.Regs[1], h.Regs[2] = 3, api.MaxMemory-4
	script := slices.Repeat([]api.Pick{{Hart: 0, Steps: api.MaxSteps}}, api.MaxScript)
	s := run(t, "all that can be", api.Machine{Memory: m, Harts: []api.Hart{h}}, script...)
	const all = api.MaxScript * api.MaxSteps
	if s.Steps != all || wordAt(s.Machine.Memory, api.MaxMemory-4) != 3*all/2 {
		t.Errorf("%d steps, %d", s.Steps, wordAt(s.Machine.Memory, api.MaxMemory-4))
	}
}

// ends is a memory: ADDI, ADDI, then last, then ADDIs, of x5 each.
func ends(t *testing.T, last api.Ins) []byte {
	t.Helper()
	add := api.Ins{Op: api.ADDI, Rd: 5, Rs1: 5, Imm: 1}
	return lay(t, make([]byte, 64), 0, add, add, last, add, add, add)
}

// TestEndsWithin: E2: a hart that halts or traps does no step behind that, in this pick or a later one; the step that ended it counts.
func TestEndsWithin(t *testing.T) {
	for name, c := range map[string]struct {
		last         api.Ins
		x17          uint32
		state, cause int
	}{
		"halts":          {api.Ins{Op: api.ECALL}, 0, api.Halted, 0},
		"a call":         {api.Ins{Op: api.ECALL}, 2, api.Trapped, api.CauseCall},
		"a break":        {api.Ins{Op: api.EBREAK}, 1, api.Trapped, api.CauseBreak},
		"a load":         {api.Ins{Op: api.LW, Rd: 5, Imm: 2}, 1, api.Trapped, api.CauseLoad},
		"a load, LRW":    {api.Ins{Op: api.LRW, Rd: 5, Rs1: 17}, 1, api.Trapped, api.CauseLoad},
		"a store":        {api.Ins{Op: api.SW, Rs2: 5, Imm: 64}, 1, api.Trapped, api.CauseStore},
		"a store, SCW":   {api.Ins{Op: api.SCW, Rd: 5, Rs1: 17}, 1, api.Trapped, api.CauseStore},
		"a store, AMOOR": {api.Ins{Op: api.AMOOR, Rd: 5, Rs1: 17}, 1, api.Trapped, api.CauseStore},
	} {
		h := full(1)
		h.PC, h.Regs[5], h.Regs[17] = 0, 100, c.x17
		want := h
		want.PC, want.Regs[5], want.State, want.Cause = 8, 102, c.state, c.cause
		m := ends(t, c.last)
		for _, script := range [][]api.Pick{
			{{Steps: 3}}, {{Steps: 4}}, {{Steps: api.MaxSteps}}, {{Steps: 1}, {Steps: 1}, {Steps: 1}}, {{Steps: 1}, {Steps: 0}, {Steps: 2}},
			{{Steps: 3}, {Steps: 1}}, {{Steps: 400}, {Steps: 0}, {Steps: 400}, {Steps: 1}}, slices.Repeat([]api.Pick{{Steps: 2}}, api.MaxScript),
		} {
			s := run(t, name, api.Machine{Memory: m, Harts: []api.Hart{h}}, script...)
			if s.Steps != 3 || s.Machine.Harts[0] != want || !bytes.Equal(s.Machine.Memory, m) || len(s.Out) != 0 {
				t.Errorf("%s, %d picks: %d steps, %v, want %v", name, len(script), s.Steps, s.Machine.Harts[0], want)
			}
		}
		for steps, pc := range []uint32{0, 4, 8} {
			s := run(t, name, api.Machine{Memory: m, Harts: []api.Hart{h}}, api.Pick{Steps: steps})
			if s.Steps != steps || s.Machine.Harts[0].PC != pc || s.Machine.Harts[0].State != api.Runs {
				t.Errorf("%s, ahead of it: %d steps, %v", name, s.Steps, s.Machine.Harts[0])
			}
		}
	}
}

// TestNoWord: E2: a hart that comes to where no word or no instruction is traps there, and that is a step.
func TestNoWord(t *testing.T) {
	add := api.Ins{Op: api.ADDI, Rd: 5, Rs1: 5, Imm: 1}
	long := lay(t, make([]byte, 12), 0, add, add)
	for _, c := range []struct {
		name  string
		m     []byte
		pc    uint32
		cause int
		steps int
		end   uint32
	}{
		{"no memory", nil, 0, api.CauseFetch, 1, 0},
		{"behind the memory", long[:8], 0, api.CauseFetch, 3, 8},
		{"half a word", long[:10], 0, api.CauseFetch, 3, 8},
		{"no instruction", long, 0, api.CauseWord, 3, 8},
		{"an odd place", long, 2, api.CauseFetch, 1, 2},
		{"a high place", long, ones - 3, api.CauseFetch, 1, ones - 3},
	} {
		s := run(t, c.name, api.Machine{Memory: c.m, Harts: []api.Hart{{PC: c.pc}}}, api.Pick{Steps: 9}, api.Pick{Steps: 9})
		want := trapped(api.Hart{PC: c.end}, c.cause)
		want.Regs[5] = uint32(c.steps - 1)
		if s.Steps != c.steps || s.Machine.Harts[0] != want {
			t.Errorf("%s: %d steps, %v", c.name, s.Steps, s.Machine.Harts[0])
		}
	}
}

// TestNotRunning: E2: harts that are Halted or Trapped from the beginning do nothing; others go on beside them.
func TestNotRunning(t *testing.T) {
	m := nops(t, 4)
	m.Harts = []api.Hart{halted(held(full(1), 8)), trapped(full(2), api.CauseWord), {}, trapped(held(full(3), ones), api.CauseBreak)}
	for k := range m.Harts {
		m.Harts[k].PC = 0
	}
	s := run(t, "not running", m, api.Pick{Hart: 0, Steps: 5}, api.Pick{Hart: 1, Steps: 400}, api.Pick{Hart: 2, Steps: 7}, api.Pick{Hart: 3, Steps: 1}, api.Pick{Hart: 0, Steps: 1})
	want := slices.Clone(m.Harts)
	want[2].PC = 28
	if s.Steps != 7 || !slices.Equal(s.Machine.Harts, want) || !bytes.Equal(s.Machine.Memory, m.Memory) {
		t.Errorf("%d steps, %v", s.Steps, s.Machine.Harts)
	}
}

// TestEndsAlone: E2: that one hart ends does not end the others, nor the script.
func TestEndsAlone(t *testing.T) {
	add := api.Ins{Op: api.ADDI, Rd: 5, Rs1: 5, Imm: 1}
	m := lay(t, make([]byte, 64), 0, add, api.Ins{Op: api.ECALL}, add, add)
	calls := api.Hart{}
	calls.Regs[17] = 2
	speaks := api.Hart{}
	speaks.Regs[10], speaks.Regs[17] = 6, 1
	s := run(t, "ends alone", api.Machine{Memory: m, Harts: []api.Hart{{}, calls, speaks}},
		api.Pick{Hart: 0, Steps: 4}, api.Pick{Hart: 1, Steps: 1}, api.Pick{Hart: 2, Steps: 1}, api.Pick{Hart: 1, Steps: 4}, api.Pick{Hart: 0, Steps: 4}, api.Pick{Hart: 2, Steps: 3})
	for k, want := range []struct {
		state, cause int
		x5, pc       uint32
	}{{api.Halted, 0, 1, 4}, {api.Trapped, api.CauseCall, 1, 4}, {api.Runs, 0, 3, 16}} {
		h := s.Machine.Harts[k]
		if h.State != want.state || h.Cause != want.cause || h.Regs[5] != want.x5 || h.PC != want.pc {
			t.Errorf("hart %d is %v", k, h)
		}
	}
	if s.Steps != 8 || !slices.Equal(s.Out, []uint32{6}) {
		t.Errorf("%d steps, out %v", s.Steps, s.Out)
	}
}

// TestOneMemory: E2: what a hart stored is what the next one loads, and does.
func TestOneMemory(t *testing.T) {
	m := make([]byte, 256)
	m = lay(t, m, 0, api.Ins{Op: api.SW, Rs1: 2, Rs2: 1}, api.Ins{Op: api.LW, Rd: 4, Rs1: 2})
	m = lay(t, m, 32, api.Ins{Op: api.LW, Rd: 3, Rs1: 2}, api.Ins{Op: api.ADDI, Rd: 3, Rs1: 3, Imm: 5}, api.Ins{Op: api.SH, Rs1: 2, Rs2: 3})
	one, two := api.Hart{}, api.Hart{PC: 32}
	one.Regs[1], one.Regs[2], two.Regs[2] = 0x12345678, 128, 128
	s := run(t, "there and back", api.Machine{Memory: m, Harts: []api.Hart{one, two}}, api.Pick{Hart: 0, Steps: 1}, api.Pick{Hart: 1, Steps: 3}, api.Pick{Hart: 0, Steps: 1})
	if got := s.Machine.Harts[0].Regs[4]; got != 0x1234567d || wordAt(s.Machine.Memory, 128) != 0x1234567d {
		t.Errorf("there and back: %#x", got)
	}
	s = run(t, "the other way round", api.Machine{Memory: m, Harts: []api.Hart{one, two}}, api.Pick{Hart: 1, Steps: 3}, api.Pick{Hart: 0, Steps: 2})
	if got := s.Machine.Harts[0].Regs[4]; got != 0x12345678 || s.Machine.Harts[1].Regs[3] != 5 {
		t.Errorf("the other way round: %#x, %v", got, s.Machine.Harts[1])
	}
	code := lay(t, make([]byte, 128), 0, api.Ins{Op: api.SW, Rs1: 2, Rs2: 1}, api.Ins{Op: api.ADDI, Rd: 5, Rs1: 5, Imm: 1}, api.Ins{Op: api.ADDI, Rd: 5, Rs1: 5, Imm: 1})
	one.Regs[1], one.Regs[2] = wordAt(lay(t, make([]byte, 4), 0, api.Ins{Op: api.ADDI, Rd: 5, Rs1: 5, Imm: 100}), 0), 8
	two = api.Hart{PC: 4}
	s = run(t, "new code", api.Machine{Memory: code, Harts: []api.Hart{one, two}}, api.Pick{Hart: 1, Steps: 1}, api.Pick{Hart: 0, Steps: 3}, api.Pick{Hart: 1, Steps: 1})
	if s.Machine.Harts[0].Regs[5] != 101 || s.Machine.Harts[1].Regs[5] != 101 {
		t.Errorf("new code: %v", s.Machine.Harts)
	}
}
