package undo_test

import (
	"bytes"
	"math"
	"slices"
	"testing"

	"ferrybridge/api"
	"ferrybridge/decode"
	"ferrybridge/machine"
	"ferrybridge/undo"
)

const ones = uint32(1<<32 - 1)

func encoded(t *testing.T, i api.Ins) uint32 {
	t.Helper()
	w, e := decode.Encode(i)
	if e != api.OK {
		t.Fatalf("Encode(%v): %v", i, e)
	}
	return w
}

// lay answers a copy of a memory in which the words of instructions stand from at on.
func lay(t *testing.T, m []byte, at int, program ...api.Ins) []byte {
	t.Helper()
	out := bytes.Clone(m)
	for k, i := range program {
		put(out, at+4*k, encoded(t, i))
	}
	return out
}

func put(m []byte, at int, w uint32) {
	for k := range 4 {
		m[at+k] = byte(w >> (8 * k))
	}
}

// filled is a memory of 256 bytes with something in each, and instructions from 0 on.
func filled(t *testing.T, program ...api.Ins) []byte {
	t.Helper()
	m := make([]byte, 256)
	for k := range m {
		m[k] = byte(37*k + 11)
	}
	return lay(t, m, 0, program...)
}

// full is a hart that runs at 0, with all registers told apart by mark.
func full(mark uint32) api.Hart {
	h := api.Hart{}
	for k := 1; k < 32; k++ {
		h.Regs[k] = mark<<16 + uint32(k)
	}
	return h
}

// storer is a hart that runs at 0, with x5 and x6.
func storer(x5, x6 uint32) api.Hart {
	h := full(1)
	h.Regs[5], h.Regs[6] = x5, x6
	return h
}

func held(h api.Hart, at uint32) api.Hart {
	h.Held, h.HeldAt = true, at
	return h
}

func trapped(h api.Hart, cause int) api.Hart {
	h.State, h.Cause = api.Trapped, cause
	return h
}

func halted(h api.Hart) api.Hart {
	h.State = api.Halted
	return h
}

// of is a machine.
func of(memory []byte, harts ...api.Hart) api.Machine {
	return api.Machine{Memory: memory, Harts: harts}
}

func sameMachine(a, b api.Machine) bool {
	return bytes.Equal(a.Memory, b.Memory) && slices.Equal(a.Harts, b.Harts)
}

func sameShown(a, b api.Shown) bool {
	return sameMachine(a.Machine, b.Machine) && slices.Equal(a.Out, b.Out) && a.Steps == b.Steps
}

func sameUndo(a, b api.Undo) bool {
	return a.Hart == b.Hart && a.Was == b.Was && a.From == b.From && bytes.Equal(a.Bytes, b.Bytes) && slices.Equal(a.Lost, b.Lost)
}

func copyOf(m api.Machine) api.Machine { return of(bytes.Clone(m.Memory), slices.Clone(m.Harts)...) }

func copyOfAll(l []api.Undo) []api.Undo {
	all := slices.Clone(l)
	for k, u := range l {
		all[k].Bytes, all[k].Lost = bytes.Clone(u.Bytes), slices.Clone(u.Lost)
	}
	return all
}

// run is a Run that must be OK, show what machine.Run shows, tell an Undo for each step, and leave alone what was handed in.
func run(t *testing.T, name string, m api.Machine, script ...api.Pick) (api.Shown, []api.Undo) {
	t.Helper()
	wasMachine, wasScript := copyOf(m), slices.Clone(script)
	want, _ := machine.Run(m, script)
	s, l, e := undo.Run(m, script)
	if e != api.OK || !sameShown(s, want) {
		t.Fatalf("%s: %v, error %v, want %v", name, s, e, want)
	}
	if len(l) != s.Steps {
		t.Fatalf("%s: %d Undos of %d steps", name, len(l), s.Steps)
	}
	if !sameMachine(m, wasMachine) || !slices.Equal(script, wasScript) {
		t.Errorf("%s: what was handed in is changed", name)
	}
	return s, l
}

// back is a Back that must be OK, answer a machine that may be, and leave alone what was handed in.
func back(t *testing.T, name string, m api.Machine, l []api.Undo, steps int) api.Machine {
	t.Helper()
	wasMachine, wasList := copyOf(m), copyOfAll(l)
	got, e := undo.Back(m, l, steps)
	if e != api.OK {
		t.Fatalf("%s: error %v", name, e)
	}
	if !sameMachine(m, wasMachine) || !slices.EqualFunc(l, wasList, sameUndo) {
		t.Errorf("%s: what was handed in is changed", name)
	}
	if !machine.May(got) {
		t.Errorf("%s: the machine that is answered may not be: %v", name, got)
	}
	return got
}

// wrongHarts are harts that may not be (D1), one of each kind.
func wrongHarts() map[string]api.Hart {
	all := map[string]api.Hart{}
	for name, change := range map[string]func(h *api.Hart){
		"register 0":             func(h *api.Hart) { h.Regs[0] = 1 },
		"HeldAt, but not held":   func(h *api.Hart) { h.HeldAt = 4 },
		"a state below":          func(h *api.Hart) { h.State = api.Runs - 1 },
		"a state above":          func(h *api.Hart) { h.State = api.Trapped + 1 },
		"runs with a cause":      func(h *api.Hart) { h.Cause = api.CauseFetch },
		"halted with a cause":    func(h *api.Hart) { h.State, h.Cause = api.Halted, api.CauseCall },
		"trapped, no cause":      func(h *api.Hart) { h.State = api.Trapped },
		"trapped, a cause below": func(h *api.Hart) { h.State, h.Cause = api.Trapped, -1 },
		"trapped, a cause above": func(h *api.Hart) { h.State, h.Cause = api.Trapped, api.CauseBreak+1 },
		"a state far above":      func(h *api.Hart) { h.State = math.MaxInt },
	} {
		h := full(5)
		change(&h)
		all[name] = h
	}
	return all
}

// wrongMachines are machines that may not be (E1).
func wrongMachines() map[string]api.Machine {
	all := map[string]api.Machine{
		"nothing":         {},
		"no harts":        of(make([]byte, 64)),
		"too many harts":  of(make([]byte, 64), make([]api.Hart, api.MaxHarts+1)...),
		"too many bytes":  of(make([]byte, api.MaxMemory+1), full(1)),
		"far too many":    of(make([]byte, 1<<16), full(1)),
		"many, and wrong": of(make([]byte, api.MaxMemory+1), make([]api.Hart, 300)...),
	}
	for name, h := range wrongHarts() {
		all["first hart: "+name] = of(make([]byte, 64), h, full(1))
		all["last hart: "+name] = of(make([]byte, 64), full(1), full(2), full(3), h)
	}
	return all
}

// checkWrong is a Run that must tell want, as machine.Run does, and nothing else.
func checkWrong(t *testing.T, name string, m api.Machine, script []api.Pick, want api.Errno) {
	t.Helper()
	if _, e := machine.Run(m, script); e != want {
		t.Errorf("%s: machine.Run tells %v, want %v", name, e, want)
	}
	s, l, e := undo.Run(m, script)
	if e != want {
		t.Errorf("%s: error %v, want %v", name, e, want)
	}
	if !sameShown(s, api.Shown{}) || len(l) != 0 {
		t.Errorf("%s: shows %v, with %v", name, s, l)
	}
}

// TestExample: the chapter's example.
func TestExample(t *testing.T) {
	h := full(1)
	m := of(filled(t, api.Ins{Op: api.ADDI, Rd: 5, Rs1: 6, Imm: 7}), h)
	_, l := run(t, "ADDI", m, api.Pick{Hart: 0, Steps: 1})
	if len(l) != 1 || !sameUndo(l[0], api.Undo{Was: h}) {
		t.Errorf("%v", l)
	}
}

// TestRunWrong: L1: each error of machine.Run, the first one where there are several.
func TestRunWrong(t *testing.T) {
	for name, m := range wrongMachines() {
		checkWrong(t, name, m, nil, api.ErrForm)
		checkWrong(t, name+", and a pick", m, []api.Pick{{Hart: 0, Steps: 1}}, api.ErrForm)
		checkWrong(t, name+", and wrong picks", m, make([]api.Pick, api.MaxScript+1), api.ErrForm)
	}
	m := of(filled(t), full(1), full(2))
	checkWrong(t, "too many picks", m, make([]api.Pick, api.MaxScript+1), api.ErrSize)
	checkWrong(t, "too many picks, of no hart", m, slices.Repeat([]api.Pick{{Hart: 7, Steps: -1}}, api.MaxScript+1), api.ErrSize)
	for name, p := range map[string]api.Pick{
		"a hart below":       {Hart: -1, Steps: 1},
		"a hart above":       {Hart: 2, Steps: 1},
		"the least hart":     {Hart: math.MinInt, Steps: 1},
		"the greatest hart":  {Hart: math.MaxInt, Steps: 1},
		"a hart in 32 bits":  {Hart: 1 << 32, Steps: 1},
		"steps below":        {Hart: 0, Steps: -1},
		"steps above":        {Hart: 0, Steps: api.MaxSteps + 1},
		"the least steps":    {Hart: 0, Steps: math.MinInt},
		"the greatest steps": {Hart: 1, Steps: math.MaxInt},
		"no steps, no hart":  {Hart: 2, Steps: 0},
	} {
		checkWrong(t, name, m, []api.Pick{p}, api.ErrRange)
		checkWrong(t, name+", last", m, []api.Pick{{Hart: 0, Steps: 3}, {Hart: 1, Steps: 2}, p}, api.ErrRange)
	}
}

// TestNoSteps: L1: where no step is done there is no Undo.
func TestNoSteps(t *testing.T) {
	m := of(filled(t), halted(full(1)), trapped(full(2), api.CauseLoad), full(3))
	for name, script := range map[string][]api.Pick{
		"no script":            nil,
		"an empty script":      {},
		"no steps":             {{Hart: 2}, {Hart: 0}, {Hart: 2}},
		"of harts that ended":  {{Hart: 0, Steps: 3}, {Hart: 1, Steps: api.MaxSteps}},
		"MaxScript of nothing": make([]api.Pick, api.MaxScript),
	} {
		s, l := run(t, name, m, script...)
		if s.Steps != 0 || len(l) != 0 {
			t.Errorf("%s: %d steps, %v", name, s.Steps, l)
		}
		if got := back(t, name, s.Machine, l, 0); !sameMachine(got, m) {
			t.Errorf("%s: back is %v", name, got)
		}
	}
}

// TestInOrder: L1: an Undo for each step, in the order of the picks, each with its hart as it was just ahead of it.
func TestInOrder(t *testing.T) {
	m := of(lay(t, make([]byte, 16), 0, api.Ins{Op: api.ADDI, Rd: 8, Rs1: 8, Imm: 1}, api.Ins{Op: api.JAL, Imm: -4}), api.Hart{}, api.Hart{}, api.Hart{})
	_, l := run(t, "in order", m, api.Pick{Hart: 2, Steps: 3}, api.Pick{Hart: 0, Steps: 1}, api.Pick{Hart: 1}, api.Pick{Hart: 2, Steps: 2}, api.Pick{Hart: 0, Steps: 1})
	was := func(pc, x8 uint32) api.Hart {
		h := api.Hart{PC: pc}
		h.Regs[8] = x8
		return h
	}
	want := []api.Undo{
		{Hart: 2, Was: was(0, 0)}, {Hart: 2, Was: was(4, 1)}, {Hart: 2, Was: was(0, 1)},
		{Hart: 0, Was: was(0, 0)},
		{Hart: 2, Was: was(4, 2)}, {Hart: 2, Was: was(0, 2)},
		{Hart: 0, Was: was(4, 1)},
	}
	if !slices.EqualFunc(l, want, sameUndo) {
		t.Errorf("%v, want %v", l, want)
	}
}
