package engine_test

import (
	"bytes"
	"reflect"
	"slices"
	"testing"

	"ferrybridge/api"
	"ferrybridge/engine"
)

// TestSomethingKept: J3: with a room of MaxBlocks, an instruction that is done, of whatever kind, leaves a block, or one that is pushed out or stale.
func TestSomethingKept(t *testing.T) {
	for name, i := range map[string]api.Ins{
		"ADDI":           add(1),
		"FENCE":          {Op: api.FENCE},
		"JAL to itself":  {Op: api.JAL},
		"ECALL":          {Op: api.ECALL},
		"EBREAK":         {Op: api.EBREAK},
		"LW that traps":  {Op: api.LW, Imm: 1},
		"SW that traps":  {Op: api.SW, Imm: 1},
		"SW over itself": {Op: api.SW, Rs2: 6},
		"SB over itself": {Op: api.SB, Rs2: 6, Imm: 3},
	} {
		for _, steps := range []int{0, 1, 2, 400} {
			m := of(lay(t, make([]byte, 4), 0, i), hartAt(0, 0, 0))
			alike(t, name, m, api.Pick{Steps: steps})
			if _, c := run(t, name, m, []api.Pick{{Steps: steps}}, api.MaxBlocks); steps == 0 && len(c.Blocks) != 0 {
				t.Errorf("%s, no steps: %v", name, c)
			}
		}
	}
}

// TestNothingStale: J3: what is kept of a program that stores is held against the memory at each of its steps (by run), where it stores in its own block, in one that was kept ahead of it, and next to both.
func TestNothingStale(t *testing.T) {
	for at := uint32(0); at < 80; at++ {
		m := lay(t, make([]byte, 96), 0, add(1), add(2), add(3), api.Ins{Op: api.JAL, Imm: 20})
		m = lay(t, m, 32, add(4), api.Ins{Op: api.SB, Rs1: 5, Rs2: 6}, add(5), api.Ins{Op: api.JAL, Imm: -44})
		for steps := range 14 {
			alike(t, "a byte", of(m, hartAt(0, at, 0x55)), api.Pick{Steps: steps})
			alike(t, "a byte, in turn", of(m, hartAt(0, at, 0x13), hartAt(4, at, 0x93), hartAt(36, at, 0xff)), api.Pick{Steps: 5}, api.Pick{Hart: 1, Steps: steps}, api.Pick{Hart: 2, Steps: 3}, api.Pick{Steps: 4})
		}
	}
}

// TestManyBlocks: J2, J3: more blocks than any room has, gone through again and again, and written over.
func TestManyBlocks(t *testing.T) {
	for _, count := range []int{1, 2, api.MaxBlocks - 1, api.MaxBlocks, api.MaxBlocks + 1, 3 * api.MaxBlocks} {
		m := chain(t, count)
		last := len(m) - 8
		m = lay(t, append(m, make([]byte, 64)...), len(m), api.Ins{Op: api.SW, Rs1: 5, Rs2: 6}, api.Ins{Op: api.JAL, Imm: -4})
		for _, at := range []int{0, last / 16 * 8, last} {
			writer := hartAt(uint32(last+8), uint32(at), encoded(t, add(1000)))
			s := alike(t, "many", of(m, api.Hart{}, writer), api.Pick{Steps: 2 * count}, api.Pick{Hart: 1, Steps: 3}, api.Pick{Steps: 2 * count})
			if h := s.Machine.Harts[0]; h.Regs[8] != uint32(2*count)+999 || h.PC != 0 {
				t.Errorf("%d blocks, written at %d: %v", count, at, h)
			}
		}
	}
}

// roomy is a machine whose lists have more behind their lengths, and those lists whole.
func roomy(t *testing.T) (m api.Machine, memory []byte, harts []api.Hart) {
	t.Helper()
	memory = append(lay(t, make([]byte, 64), 0, api.Ins{Op: api.SW, Rs1: 5, Rs2: 6}, api.Ins{Op: api.ECALL}, add(1), api.Ins{Op: api.JAL, Imm: -12}), 1, 2, 3, 4, 5, 6, 7, 8)
	one := hartAt(0, 32, 0x01020304)
	one.Regs[10], one.Regs[17] = 3, 1
	harts = []api.Hart{one, held(one, 32), held(hartAt(60, 1, 2), 32), hartAt(3, 4, 5)}
	return api.Machine{Memory: memory[:64], Harts: harts[:3]}, memory, harts
}

// spoil changes all that is answered, and what lies behind its lengths.
func spoil(s *api.Shown, c *api.Cache) {
	for k := range s.Machine.Memory {
		s.Machine.Memory[k] ^= 255
	}
	for k := range s.Machine.Harts {
		s.Machine.Harts[k] = hartAt(9, 9, 9)
	}
	for k := range s.Out {
		s.Out[k] = 99
	}
	_ = append(s.Machine.Memory, 99, 99, 99, 99)
	_ = append(s.Machine.Harts, hartAt(9, 9, 9))
	_ = append(s.Out, 99)
	for k, b := range c.Blocks {
		for l := range b.Ins {
			b.Ins[l] = api.Ins{Op: 99}
		}
		_ = append(b.Ins, api.Ins{Op: 99})
		c.Blocks[k] = api.Block{}
	}
	_ = append(c.Blocks, api.Block{PC: 99})
}

// TestNotShared: P3: what was handed in is not changed, not kept, and not shared with what is answered, nor with what another Run answers.
func TestNotShared(t *testing.T) {
	for _, script := range [][]api.Pick{nil, {{Hart: 0}}, {{Hart: 2, Steps: 1}}, {{Hart: 0, Steps: 8}}, {{Hart: 0, Steps: 1}, {Hart: 1, Steps: 5}, {Hart: 0, Steps: 2}}} {
		for _, room := range rooms {
			m, memory, harts := roomy(t)
			script := slices.Clone(script)
			wasMemory, wasHarts, wasScript := bytes.Clone(memory), slices.Clone(harts), slices.Clone(script)
			one, oneKept := run(t, "one", m, script, room)
			two, twoKept := run(t, "two", m, script, room)
			if !reflect.DeepEqual(one, two) || !reflect.DeepEqual(oneKept, twoKept) {
				t.Errorf("two answers of one question: %v %v, %v %v", one, oneKept, two, twoKept)
			}
			spoil(&one, &oneKept)
			if !bytes.Equal(memory, wasMemory) || !slices.Equal(harts, wasHarts) || !slices.Equal(script, wasScript) {
				t.Errorf("script %v: what is answered lies on what was handed in", script)
			}
			three, threeKept := run(t, "three", m, script, room)
			if !reflect.DeepEqual(three, two) || !reflect.DeepEqual(threeKept, twoKept) {
				t.Errorf("script %v: what is answered lies on what another Run answers", script)
			}
			for k := range memory {
				memory[k] ^= 255
			}
			clear(harts)
			clear(script)
			if !reflect.DeepEqual(three, two) || !reflect.DeepEqual(threeKept, twoKept) {
				t.Errorf("script %v: what was handed in lies on what is answered", wasScript)
			}
		}
	}
}

// TestListsApart: P3: no two lists of an answer share memory: each one, made longer and changed, leaves the others.
func TestListsApart(t *testing.T) {
	m := of(chain(t, 20), api.Hart{})
	_, want := run(t, "want", m, []api.Pick{{Steps: 400}}, api.MaxBlocks)
	if len(want.Blocks) < 2 {
		t.Fatal("too few blocks are kept to be told apart")
	}
	for k := range want.Blocks {
		_, got := run(t, "got", m, []api.Pick{{Steps: 400}}, api.MaxBlocks)
		row := got.Blocks[k].Ins
		row = append(row, api.Ins{Op: 99}, api.Ins{Op: 99})
		row[0].Op = 99
		clear(got.Blocks[k].Ins)
		for l, b := range got.Blocks {
			if l != k && !slices.Equal(b.Ins, want.Blocks[l].Ins) {
				t.Errorf("block %d lies on block %d", l, k)
			}
		}
	}
}

// TestBehindLengths: P3: what lies behind the lengths is neither read nor written: no word is fetched, loaded, stored or kept there.
func TestBehindLengths(t *testing.T) {
	for _, room := range rooms {
		m, memory, harts := roomy(t)
		put(memory, 60, encoded(t, add(1)))
		put(memory, 64, encoded(t, add(1)))
		was := bytes.Clone(memory)
		m.Harts[0].PC = 60
		m.Harts[1].Regs[5] = 64
		s, _ := run(t, "behind", m, []api.Pick{{Hart: 0, Steps: 3}, {Hart: 1, Steps: 1}}, room)
		if s.Machine.Harts[0].Cause != api.CauseFetch || s.Machine.Harts[0].PC != 64 || s.Machine.Harts[1].Cause != api.CauseStore || s.Steps != 3 {
			t.Errorf("room %d: harts %v", room, s.Machine.Harts)
		}
		if len(s.Machine.Memory) != 64 || len(s.Machine.Harts) != 3 || !bytes.Equal(memory, was) || harts[3] != hartAt(3, 4, 5) {
			t.Errorf("room %d: %d bytes, %d harts, %v", room, len(s.Machine.Memory), len(s.Machine.Harts), memory[64:])
		}
		harts[3].Regs[0] = 1
		script := []api.Pick{{Hart: 2, Steps: 1}, {Hart: 9, Steps: 9}}
		if s, _, e := engine.Run(m, script[:1], room); e != api.OK || s.Steps != 1 {
			t.Errorf("room %d: %v, %v", room, s, e)
		}
	}
}
