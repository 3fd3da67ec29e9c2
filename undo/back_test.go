package undo_test

import (
	"bytes"
	"math"
	"slices"
	"strconv"
	"testing"

	"ferrybridge/api"
	"ferrybridge/undo"
)

// checkBackWrong is a Back that must tell want and nothing else.
func checkBackWrong(t *testing.T, name string, m api.Machine, l []api.Undo, steps int, want api.Errno) {
	t.Helper()
	got, e := undo.Back(m, l, steps)
	if e != want {
		t.Errorf("%s, %d steps: error %v, want %v", name, steps, e, want)
	}
	if len(got.Memory) != 0 || len(got.Harts) != 0 {
		t.Errorf("%s, %d steps: answers %v", name, steps, got)
	}
}

// two is a machine of 8 bytes and two harts.
func two() api.Machine { return of([]byte{1, 2, 3, 4, 5, 6, 7, 8}, full(1), full(2)) }

// some are three Undos that can be of two.
func some() []api.Undo {
	return []api.Undo{
		{Hart: 0, Was: full(3), From: 0, Bytes: []byte{11, 12}},
		{Hart: 1, Was: full(4), From: 4, Bytes: []byte{15, 16, 17, 18}, Lost: []api.Lost{{Hart: 0, At: 6}}},
		{Hart: 1, Was: halted(full(5))},
	}
}

// TestBackSteps: L2: from 0 to all, with the machine behind each written out; one too many and one below are ErrRange.
func TestBackSteps(t *testing.T) {
	m, l := two(), some()
	for steps, want := range []api.Machine{
		m,
		of(m.Memory, full(1), halted(full(5))),
		of([]byte{1, 2, 3, 4, 15, 16, 17, 18}, held(full(1), 6), full(4)),
		of([]byte{11, 12, 3, 4, 15, 16, 17, 18}, full(3), full(4)),
	} {
		if got := back(t, "steps", m, l, steps); !sameMachine(got, want) {
			t.Errorf("%d steps: %v, want %v", steps, got, want)
		}
	}
	for _, steps := range []int{-1, 4, 5, -3, -4, math.MinInt, math.MaxInt, math.MinInt + 3, math.MaxInt - 3, 1 << 32, 1<<32 + 1, -1 << 32} {
		checkBackWrong(t, "steps", m, l, steps, api.ErrRange)
	}
}

// TestBackOfNone: L2: an empty list is taken back by 0 steps, and by no others.
func TestBackOfNone(t *testing.T) {
	for _, m := range []api.Machine{two(), of(nil, api.Hart{}), of([]byte{}, held(full(1), ones), trapped(full(2), api.CauseBreak))} {
		for _, l := range [][]api.Undo{nil, {}, some()[:0]} {
			if got := back(t, "none", m, l, 0); !sameMachine(got, m) {
				t.Errorf("none: %v, want %v", got, m)
			}
			for _, steps := range []int{1, -1, math.MinInt, math.MaxInt} {
				checkBackWrong(t, "none", m, l, steps, api.ErrRange)
			}
		}
	}
}

// TestBackWrongMachine: L2: ErrForm of a machine that may not be, whatever else is handed in.
func TestBackWrongMachine(t *testing.T) {
	for name, m := range wrongMachines() {
		checkBackWrong(t, name, m, nil, 0, api.ErrForm)
		checkBackWrong(t, name, m, nil, 1, api.ErrForm)
		checkBackWrong(t, name, m, []api.Undo{{Was: full(1)}}, 1, api.ErrForm)
		checkBackWrong(t, name, m, []api.Undo{{Was: full(1)}}, -1, api.ErrForm)
	}
}

// wrongUndos are Undos that can't be of two.
func wrongUndos() map[string]api.Undo {
	all := map[string]api.Undo{}
	for name, number := range map[string]int{"above": 2, "below": -1, "far above": math.MaxInt, "far below": math.MinInt, "in 32 bits": 1 << 32, "a hart of others": api.MaxHarts - 1} {
		all["hart "+name] = api.Undo{Hart: number, Was: full(1)}
		all["lost "+name] = api.Undo{Was: full(1), Lost: []api.Lost{{Hart: number}}}
		all["lost, the last, "+name] = api.Undo{Was: full(1), Lost: []api.Lost{{Hart: 0}, {Hart: 1}, {Hart: number}}}
		all["lost, the first, "+name] = api.Undo{Was: full(1), Lost: []api.Lost{{Hart: number}, {Hart: 1}}}
	}
	for name, h := range wrongHarts() {
		all["was: "+name] = api.Undo{Was: h}
		all["was of the other: "+name] = api.Undo{Hart: 1, Was: h}
	}
	for _, from := range []uint32{9, 10, 16, 1 << 16, 1 << 31, 1<<31 + 8, ones - 8, ones} {
		all["no bytes at "+strconv.FormatUint(uint64(from), 10)] = api.Undo{Was: full(1), From: from}
	}
	for from, count := range map[uint32]int{0: 9, 8: 1, 7: 2, 5: 4, 1: 8, 4: 1000, ones: 1, ones - 3: 4, ones - 7: 9, ones - 1: 10} {
		name := strconv.Itoa(count) + " bytes at " + strconv.FormatUint(uint64(from), 10)
		all[name] = api.Undo{Was: full(1), From: from, Bytes: make([]byte, count)}
	}
	return all
}

// TestBackWrongUndo: L2: ErrForm of an Undo that can't be one of the machine, wherever in the list it stands: also where it is not to be taken back, and ahead of steps that are beyond the list.
func TestBackWrongUndo(t *testing.T) {
	m := two()
	for name, u := range wrongUndos() {
		for at := range 4 {
			l := slices.Insert(some(), at, u)
			for steps := -1; steps <= 5; steps++ {
				checkBackWrong(t, name, m, l, steps, api.ErrForm)
			}
		}
		for _, steps := range []int{0, 1, 2, math.MinInt, math.MaxInt} {
			checkBackWrong(t, name+", alone", m, []api.Undo{u}, steps, api.ErrForm)
		}
	}
}

// TestBackEdges: L2: Undos that just can be: the first and the last hart, From at the memory's end without Bytes, Bytes up to it, all bytes.
func TestBackEdges(t *testing.T) {
	m := two()
	for name, c := range map[string]struct {
		u    api.Undo
		want api.Machine
	}{
		"the first hart":       {api.Undo{Hart: 0, Was: full(9)}, of(m.Memory, full(9), full(2))},
		"the last hart":        {api.Undo{Hart: 1, Was: full(9)}, of(m.Memory, full(1), full(9))},
		"none at the end":      {api.Undo{Was: full(9), From: 8}, of(m.Memory, full(9), full(2))},
		"none at 3":            {api.Undo{Was: full(9), From: 3, Bytes: []byte{}}, of(m.Memory, full(9), full(2))},
		"the last byte":        {api.Undo{Was: full(9), From: 7, Bytes: []byte{9}}, of([]byte{1, 2, 3, 4, 5, 6, 7, 9}, full(9), full(2))},
		"three, at no word":    {api.Undo{Was: full(9), From: 1, Bytes: []byte{7, 8, 9}}, of([]byte{1, 7, 8, 9, 5, 6, 7, 8}, full(9), full(2))},
		"up to the end":        {api.Undo{Was: full(9), From: 3, Bytes: []byte{0, 0, 0, 0, 9}}, of([]byte{1, 2, 3, 0, 0, 0, 0, 9}, full(9), full(2))},
		"all bytes":            {api.Undo{Was: full(9), Bytes: []byte{8, 7, 6, 5, 4, 3, 2, 1}}, of([]byte{8, 7, 6, 5, 4, 3, 2, 1}, full(9), full(2))},
		"a Was that halted":    {api.Undo{Was: halted(full(9))}, of(m.Memory, halted(full(9)), full(2))},
		"a Was that trapped":   {api.Undo{Was: trapped(held(full(9), ones), api.CauseBreak)}, of(m.Memory, trapped(held(full(9), ones), api.CauseBreak), full(2))},
		"an empty Was":         {api.Undo{}, of(m.Memory, api.Hart{}, full(2))},
		"a Lost far behind":    {api.Undo{Was: full(9), Lost: []api.Lost{{Hart: 1, At: ones}}}, of(m.Memory, full(9), held(full(2), ones))},
		"a Lost at 0":          {api.Undo{Was: full(9), Lost: []api.Lost{{Hart: 1}}}, of(m.Memory, full(9), held(full(2), 0))},
		"a Lost without bytes": {api.Undo{Was: full(9), Lost: []api.Lost{{Hart: 1, At: 5}}}, of(m.Memory, full(9), held(full(2), 5))},
		"its own Lost":         {api.Undo{Hart: 1, Was: held(full(9), 4), Lost: []api.Lost{{Hart: 1, At: 5}}}, of(m.Memory, full(1), held(full(9), 5))},
		"two Lost of one hart": {api.Undo{Was: full(9), Lost: []api.Lost{{Hart: 1, At: 5}, {Hart: 1, At: 3}}}, of(m.Memory, full(9), held(full(2), 3))},
		"and one between":      {api.Undo{Was: full(9), Lost: []api.Lost{{Hart: 1, At: 3}, {Hart: 0, At: 7}, {Hart: 1, At: 5}}}, of(m.Memory, held(full(9), 7), held(full(2), 5))},
		"Lost, not rising":     {api.Undo{Was: full(9), Lost: []api.Lost{{Hart: 1, At: 3}, {Hart: 0, At: 7}}}, of(m.Memory, held(full(9), 7), held(full(2), 3))},
		"the last one at 0":    {api.Undo{Was: full(9), Lost: []api.Lost{{Hart: 1, At: 3}, {Hart: 1, At: 0}}}, of(m.Memory, full(9), held(full(2), 0))},
	} {
		if got := back(t, name, m, []api.Undo{c.u}, 1); !sameMachine(got, c.want) {
			t.Errorf("%s: %v, want %v", name, got, c.want)
		}
		if got := back(t, name, m, []api.Undo{c.u}, 0); !sameMachine(got, m) {
			t.Errorf("%s, by no step: %v, want %v", name, got, m)
		}
	}
	empty := of(nil, full(1))
	if got := back(t, "no memory", empty, []api.Undo{{Was: full(2)}}, 1); !sameMachine(got, of(nil, full(2))) {
		t.Errorf("no memory: %v", got)
	}
	checkBackWrong(t, "no memory", empty, []api.Undo{{Was: full(2), Bytes: []byte{0}}}, 1, api.ErrForm)
	checkBackWrong(t, "no memory", empty, []api.Undo{{Was: full(2), From: 1}}, 1, api.ErrForm)
	long := of(make([]byte, api.MaxMemory), full(1))
	whole := bytes.Repeat([]byte{7}, api.MaxMemory)
	if got := back(t, "MaxMemory", long, []api.Undo{{Was: full(2), Bytes: whole}}, 1); !sameMachine(got, of(whole, full(2))) {
		t.Error("MaxMemory bytes")
	}
	checkBackWrong(t, "MaxMemory and one", long, []api.Undo{{Was: full(2), Bytes: make([]byte, api.MaxMemory+1)}}, 1, api.ErrForm)
	checkBackWrong(t, "at 1", long, []api.Undo{{Was: full(2), From: 1, Bytes: whole}}, 1, api.ErrForm)
}

// TestBackLastFirst: L2: the last one is taken back first, so that of bytes, harts and places that several tell, those of the eldest that is taken back stay.
func TestBackLastFirst(t *testing.T) {
	m := two()
	l := []api.Undo{
		{Hart: 0, Was: full(10), From: 2, Bytes: []byte{20, 21}, Lost: []api.Lost{{Hart: 1, At: 2}}},
		{Hart: 0, Was: full(11), From: 1, Bytes: []byte{30, 31}, Lost: []api.Lost{{Hart: 1, At: 1}}},
		{Hart: 1, Was: full(12), From: 0, Bytes: []byte{40, 41, 42, 43}, Lost: []api.Lost{{Hart: 0, At: 9}}},
	}
	for steps, want := range []api.Machine{
		m,
		of([]byte{40, 41, 42, 43, 5, 6, 7, 8}, held(full(1), 9), full(12)),
		of([]byte{40, 30, 31, 43, 5, 6, 7, 8}, full(11), held(full(12), 1)),
		of([]byte{40, 30, 20, 21, 5, 6, 7, 8}, full(10), held(full(12), 2)),
	} {
		if got := back(t, "last first", m, l, steps); !sameMachine(got, want) {
			t.Errorf("%d steps: %v, want %v", steps, got, want)
		}
	}
}

// TestBackOfAnother: L2: Undos of one machine can be those of another one that has as many harts and bytes, and can't be those of a smaller one.
func TestBackOfAnother(t *testing.T) {
	m := of(filled(t, api.Ins{Op: api.SW, Rs1: 5, Rs2: 6}), full(1), full(2), storer(252, 3))
	_, l := run(t, "another", m, api.Pick{Hart: 2, Steps: 1})
	other := of(make([]byte, 300), full(7), full(8), full(9), full(10))
	want := copyOf(other)
	copy(want.Memory[252:], m.Memory[252:256])
	want.Harts[2] = m.Harts[2]
	if got := back(t, "greater", other, l, 1); !sameMachine(got, want) {
		t.Errorf("greater: %v, want %v", got, want)
	}
	checkBackWrong(t, "a byte less", of(make([]byte, 255), full(7), full(8), full(9)), l, 1, api.ErrForm)
	checkBackWrong(t, "a hart less", of(make([]byte, 300), full(7), full(8)), l, 1, api.ErrForm)
}
