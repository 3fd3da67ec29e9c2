package machine_test

import (
	"bytes"
	"reflect"
	"slices"
	"testing"

	"ferrybridge/api"
	"ferrybridge/machine"
)

// speaker is a memory in which x10 comes out, grows by 1, and so on.
func speaker(t *testing.T) []byte {
	t.Helper()
	return lay(t, make([]byte, 64), 0, api.Ins{Op: api.ECALL}, api.Ins{Op: api.ADDI, Rd: 10, Rs1: 10, Imm: 1}, api.Ins{Op: api.JAL, Imm: -8})
}

func speaking(first uint32) api.Hart {
	h := api.Hart{}
	h.Regs[10], h.Regs[17] = first, 1
	return h
}

// TestOut: E3: what came out, in the order in which it did, of each hart and each pick.
func TestOut(t *testing.T) {
	m := api.Machine{Memory: speaker(t), Harts: []api.Hart{speaking(100), speaking(200), speaking(ones)}}
	for _, c := range []struct {
		name   string
		script []api.Pick
		out    []uint32
		steps  int
	}{
		{"none", nil, nil, 0},
		{"no steps", []api.Pick{{Hart: 0}, {Hart: 1}}, nil, 0},
		{"one", []api.Pick{{Hart: 1, Steps: 1}}, []uint32{200}, 1},
		{"just ahead of the next one", []api.Pick{{Hart: 1, Steps: 3}}, []uint32{200}, 3},
		{"several in one pick", []api.Pick{{Hart: 0, Steps: 8}}, []uint32{100, 101, 102}, 8},
		{"round behind the last number", []api.Pick{{Hart: 2, Steps: 7}}, []uint32{ones, 0, 1}, 7},
		{"in turn", []api.Pick{{Hart: 1, Steps: 1}, {Hart: 0, Steps: 4}, {Hart: 1, Steps: 2}, {Hart: 2, Steps: 1}, {Hart: 1, Steps: 1}, {Hart: 0, Steps: 3}}, []uint32{200, 100, 101, ones, 201, 102}, 12},
		{"picks of no steps between", []api.Pick{{Hart: 1, Steps: 1}, {Hart: 0}, {Hart: 2, Steps: 1}, {Hart: 1}}, []uint32{200, ones}, 2},
	} {
		s := run(t, c.name, m, c.script...)
		if !slices.Equal(s.Out, c.out) || s.Steps != c.steps {
			t.Errorf("%s: %v, %d steps", c.name, s.Out, s.Steps)
		}
	}
	s := run(t, "many", m, slices.Repeat([]api.Pick{{Hart: 0, Steps: api.MaxSteps}}, api.MaxScript)...)
	if len(s.Out) != api.MaxScript*api.MaxSteps/3 || s.Steps != api.MaxScript*api.MaxSteps {
		t.Fatalf("many: %d came out, %d steps", len(s.Out), s.Steps)
	}
	for k, w := range s.Out {
		if w != 100+uint32(k) {
			t.Fatalf("many: at %d %d came out", k, w)
		}
	}
}

// TestEndsCount: E3: steps that trap or halt are counted, one for each hart that ends, and what came out ahead of it stays.
func TestEndsCount(t *testing.T) {
	m := lay(t, make([]byte, 64), 0, api.Ins{Op: api.ECALL}, api.Ins{Op: api.ADDI, Rd: 17, Imm: 0}, api.Ins{Op: api.ECALL})
	m = lay(t, m, 32, api.Ins{Op: api.ECALL}, api.Ins{Op: api.EBREAK})
	speaks, breaks, lost := speaking(7), speaking(8), speaking(9)
	breaks.PC, lost.PC = 32, 64
	s := run(t, "ends", api.Machine{Memory: m, Harts: []api.Hart{speaks, breaks, lost}}, api.Pick{Hart: 2, Steps: 10}, api.Pick{Hart: 1, Steps: 10}, api.Pick{Hart: 0, Steps: 10}, api.Pick{Hart: 1, Steps: 10})
	if s.Steps != 1+2+3 || !slices.Equal(s.Out, []uint32{8, 7}) {
		t.Errorf("%d steps, out %v", s.Steps, s.Out)
	}
	halt, trap, fetch := halted(speaks), trapped(breaks, api.CauseBreak), trapped(lost, api.CauseFetch)
	halt.PC, halt.Regs[17], trap.PC = 8, 0, 36
	if !slices.Equal(s.Machine.Harts, []api.Hart{halt, trap, fetch}) || !bytes.Equal(s.Machine.Memory, m) {
		t.Errorf("machine %v", s.Machine)
	}
}

// TestBehindTheLastPick: E3: the machine is the one behind the last pick, and that of a script cut in two is that of its halves one after the other.
func TestBehindTheLastPick(t *testing.T) {
	s := strewn(7)
	for range 300 {
		m := s.machine(t)
		script := s.script(len(m.Harts))
		whole := run(t, "whole", m, script...)
		for cut := range len(script) + 1 {
			first := run(t, "first", m, script[:cut]...)
			second := run(t, "second", first.Machine, script[cut:]...)
			out := append(slices.Clone(first.Out), second.Out...)
			if !bytes.Equal(second.Machine.Memory, whole.Machine.Memory) || !slices.Equal(second.Machine.Harts, whole.Machine.Harts) {
				t.Fatalf("cut at %d: %v, want %v", cut, second.Machine, whole.Machine)
			}
			if !slices.Equal(out, whole.Out) || first.Steps+second.Steps != whole.Steps {
				t.Fatalf("cut at %d: %v, %d steps, want %v", cut, out, first.Steps+second.Steps, whole)
			}
		}
	}
}

// roomy is a machine whose lists have more behind their lengths, and those lists whole.
func roomy(t *testing.T) (m api.Machine, memory []byte, harts []api.Hart) {
	t.Helper()
	memory = append(lay(t, speaker(t), 0, api.Ins{Op: api.SW, Rs1: 5, Rs2: 6}, api.Ins{Op: api.ECALL}, api.Ins{Op: api.JAL, Imm: -8}), 1, 2, 3, 4, 5, 6, 7, 8)
	one := speaking(3)
	one.Regs[5], one.Regs[6] = 32, 0x01020304
	harts = []api.Hart{one, held(one, 32), held(full(3), 32), full(4)}
	return api.Machine{Memory: memory[:64], Harts: harts[:3]}, memory, harts
}

// TestNotShared: P3: what was handed in is not changed, not kept, and not shared with what is shown, nor with what another Run shows; with stores, and without.
func TestNotShared(t *testing.T) {
	for _, script := range [][]api.Pick{nil, {{Hart: 0}}, {{Hart: 2, Steps: 1}}, {{Hart: 0, Steps: 8}}, {{Hart: 0, Steps: 1}, {Hart: 1, Steps: 5}, {Hart: 0, Steps: 2}}} {
		m, memory, harts := roomy(t)
		wasMemory, wasHarts, wasScript := bytes.Clone(memory), slices.Clone(harts), slices.Clone(script)
		one, two := run(t, "one", m, script...), run(t, "two", m, script...)
		if !reflect.DeepEqual(one, two) {
			t.Errorf("two answers of one question: %v, %v", one, two)
		}
		spoil(&one)
		if !bytes.Equal(memory, wasMemory) || !slices.Equal(harts, wasHarts) || !slices.Equal(script, wasScript) {
			t.Errorf("script %v: what is shown lies on what was handed in", script)
		}
		if again := run(t, "again", m, script...); !reflect.DeepEqual(again, two) {
			t.Errorf("script %v: what is shown lies on what another Run shows", script)
		}
		kept := run(t, "kept", m, script...)
		for k := range memory {
			memory[k] ^= 255
		}
		clear(harts)
		clear(script)
		if !reflect.DeepEqual(kept, two) {
			t.Errorf("script %v: what was handed in lies on what is shown", wasScript)
		}
	}
}

// spoil changes all that is shown, and what lies behind its lengths.
func spoil(s *api.Shown) {
	for k := range s.Machine.Memory {
		s.Machine.Memory[k] ^= 255
	}
	for k := range s.Machine.Harts {
		s.Machine.Harts[k] = full(99)
	}
	for k := range s.Out {
		s.Out[k] = 99
	}
	_ = append(s.Machine.Memory, 99, 99, 99, 99)
	_ = append(s.Machine.Harts, full(99))
	_ = append(s.Out, 99)
}

// TestBehindLengths: P3: what lies behind the lengths is neither read nor written: no word is fetched, loaded or stored there.
func TestBehindLengths(t *testing.T) {
	m, memory, harts := roomy(t)
	put(memory, 64, 19)
	was := bytes.Clone(memory)
	m.Harts[0].PC = 64
	m.Harts[1].Regs[5] = 64
	s := run(t, "behind", m, api.Pick{Hart: 0, Steps: 1}, api.Pick{Hart: 1, Steps: 1})
	if s.Machine.Harts[0].Cause != api.CauseFetch || s.Machine.Harts[1].Cause != api.CauseStore {
		t.Errorf("harts %v", s.Machine.Harts)
	}
	if len(s.Machine.Memory) != 64 || len(s.Machine.Harts) != 3 || !bytes.Equal(memory, was) || harts[3] != full(4) {
		t.Errorf("%d bytes, %d harts, %v", len(s.Machine.Memory), len(s.Machine.Harts), memory[64:])
	}
	harts[3].Regs[0] = 1
	script := []api.Pick{{Hart: 2, Steps: 1}, {Hart: 9, Steps: 9}}
	if s, e := machine.Run(m, script[:1]); e != api.OK || s.Steps != 1 {
		t.Errorf("%v, %v", s, e)
	}
}
