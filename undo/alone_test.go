package undo_test

import (
	"bytes"
	"slices"
	"testing"

	"ferrybridge/api"
	"ferrybridge/undo"
)

// roomy is a machine whose lists have more behind their lengths, and those lists whole; by two of its steps two harts lose.
func roomy(t *testing.T) (m api.Machine, memory []byte, harts []api.Hart) {
	t.Helper()
	memory = append(filled(t, api.Ins{Op: api.SW, Rs1: 5, Rs2: 6}, api.Ins{Op: api.ECALL}, api.Ins{Op: api.SH, Rs1: 5, Rs2: 6, Imm: 64}, api.Ins{Op: api.JAL, Imm: -12}), 1, 2, 3, 4, 5, 6, 7, 8)
	h := storer(128, 0x01020304)
	h.Regs[17] = 1
	harts = []api.Hart{held(h, 128), held(h, 128), held(full(3), 130), full(4)}
	return api.Machine{Memory: memory[:256], Harts: harts[:3]}, memory, harts
}

// spoilMachine changes all of a machine, and what lies behind its lengths.
func spoilMachine(m api.Machine) {
	for k := range m.Memory[:cap(m.Memory)] {
		m.Memory[:cap(m.Memory)][k] ^= 255
	}
	for k := range m.Harts[:cap(m.Harts)] {
		m.Harts[:cap(m.Harts)][k] = full(99)
	}
}

// spoilUndo changes the lists of an Undo, and what lies behind their lengths.
func spoilUndo(u api.Undo) {
	for k := range u.Bytes[:cap(u.Bytes)] {
		u.Bytes[:cap(u.Bytes)][k] ^= 255
	}
	for k := range u.Lost[:cap(u.Lost)] {
		u.Lost[:cap(u.Lost)][k] = api.Lost{Hart: 99, At: 99}
	}
}

// scripts are new ones each time, since tests spoil them.
func scripts() [][]api.Pick {
	return [][]api.Pick{
		nil,
		{{Hart: 0}},
		{{Hart: 2, Steps: 1}},
		{{Hart: 0, Steps: 2}},
		{{Hart: 0, Steps: 1}, {Hart: 1, Steps: 9}, {Hart: 0, Steps: 7}},
	}
}

// TestRunAlone: P3: what Run answers is new: spoilt, it changes nothing that was handed in, nothing that another Run answers, and no other part of itself; and what was handed in is not kept.
func TestRunAlone(t *testing.T) {
	for _, script := range scripts() {
		m, memory, harts := roomy(t)
		wasMemory, wasHarts, wasScript := bytes.Clone(memory), slices.Clone(harts), slices.Clone(script)
		want, wantUndos := run(t, "want", m, script...)
		s, l := run(t, "spoilt", m, script...)
		for k := range l {
			spoilUndo(l[k])
			if !slices.EqualFunc(l[k+1:], wantUndos[k+1:], sameUndo) || !sameShown(s, want) {
				t.Fatalf("script %v: the lists of Undo %d lie on others", script, k)
			}
		}
		spoilMachine(s.Machine)
		for k := range s.Out {
			s.Out[k] = 99
		}
		clear(l)
		if !bytes.Equal(memory, wasMemory) || !slices.Equal(harts, wasHarts) || !slices.Equal(script, wasScript) {
			t.Errorf("script %v: what is answered lies on what was handed in", script)
		}
		kept, keptUndos := run(t, "again", m, script...)
		if !sameShown(kept, want) || !slices.EqualFunc(keptUndos, wantUndos, sameUndo) {
			t.Errorf("script %v: another Run answers otherwise", script)
		}
		spoilMachine(api.Machine{Memory: memory, Harts: harts})
		clear(script)
		if !sameShown(kept, want) || !slices.EqualFunc(keptUndos, wantUndos, sameUndo) {
			t.Errorf("script %v: what was handed in lies on what is answered", wasScript)
		}
	}
}

// TestMemoryAlone: P3: the memory that is shown lies on none of the Undos' Bytes.
func TestMemoryAlone(t *testing.T) {
	for _, script := range scripts() {
		m, _, _ := roomy(t)
		_, want := run(t, "want", m, script...)
		s, l := run(t, "spoilt", m, script...)
		spoilMachine(s.Machine)
		if !slices.EqualFunc(l, want, sameUndo) {
			t.Errorf("script %v: the Undos lie on the machine that is shown", script)
		}
	}
}

// TestBackAlone: P3: what Back answers is new, and what was handed in is not kept; by no steps, by some, by all.
func TestBackAlone(t *testing.T) {
	for _, script := range scripts() {
		m, _, _ := roomy(t)
		s, l := run(t, "run", m, script...)
		for steps := range len(l) + 1 {
			after, list := copyOf(s.Machine), copyOfAll(l)
			want := back(t, "want", after, list, steps)
			spoilMachine(back(t, "spoilt", after, list, steps))
			if !sameMachine(after, s.Machine) || !slices.EqualFunc(list, l, sameUndo) {
				t.Fatalf("%d steps back: what is answered lies on what was handed in", steps)
			}
			kept := back(t, "again", after, list, steps)
			if !sameMachine(kept, want) {
				t.Fatalf("%d steps back: another Back answers otherwise", steps)
			}
			spoilMachine(after)
			for _, u := range list {
				spoilUndo(u)
			}
			clear(list)
			if !sameMachine(kept, want) {
				t.Fatalf("%d steps back: what was handed in lies on what is answered", steps)
			}
		}
	}
}

// TestBehindLengths: P3: what lies behind the lengths is neither read nor written.
func TestBehindLengths(t *testing.T) {
	m, memory, harts := roomy(t)
	wasMemory := bytes.Clone(memory)
	harts[3].Regs[0] = 1
	wasHarts := slices.Clone(harts)
	script := []api.Pick{{Hart: 0, Steps: 3}, {Hart: 9, Steps: -9}}
	s, l := run(t, "behind", m, script[:1]...)
	if len(s.Machine.Memory) != 256 || len(s.Machine.Harts) != 3 || len(l) != 3 {
		t.Errorf("%d bytes, %d harts, %d Undos", len(s.Machine.Memory), len(s.Machine.Harts), len(l))
	}
	content := []byte{7, 8, 9, 10}
	lost := []api.Lost{{Hart: 1, At: 4}, {Hart: 77, At: 8}}
	list := []api.Undo{{Was: full(1), From: 254, Bytes: content[:2], Lost: lost[:1]}, {Hart: 99}}
	want := copyOf(m)
	want.Memory[254], want.Memory[255] = 7, 8
	want.Harts[0], want.Harts[1] = full(1), held(want.Harts[1], 4)
	if got := back(t, "behind", m, list[:1], 1); !sameMachine(got, want) {
		t.Errorf("back is %v, want %v", got, want)
	}
	checkBackWrong(t, "the second is behind", m, list[:1], 2, api.ErrRange)
	checkBackWrong(t, "hart 3 is behind", m, []api.Undo{{Hart: 3}}, 1, api.ErrForm)
	checkBackWrong(t, "bytes are behind", m, []api.Undo{{From: 254, Bytes: content[:3]}}, 1, api.ErrForm)
	if !bytes.Equal(memory, wasMemory) || !slices.Equal(harts, wasHarts) || !bytes.Equal(content, []byte{7, 8, 9, 10}) || lost[1].Hart != 77 || list[1].Hart != 99 {
		t.Error("what lies behind the lengths is changed")
	}
}

// TestSameAgain: P3: what is answered hangs on the arguments alone: a Back between two Runs, or a wrong call, changes nothing.
func TestSameAgain(t *testing.T) {
	m, _, _ := roomy(t)
	script := scripts()[len(scripts())-1]
	s, l := run(t, "first", m, script...)
	was := back(t, "first", s.Machine, l, len(l))
	undo.Back(was, l, len(l)+1)
	undo.Run(api.Machine{}, script)
	again, list := run(t, "second", was, script...)
	if !sameShown(s, again) || !slices.EqualFunc(l, list, sameUndo) {
		t.Error("a second Run answers otherwise")
	}
	if got := back(t, "second", s.Machine, l, len(l)); !sameMachine(got, was) || !sameMachine(got, m) {
		t.Error("a second Back answers otherwise")
	}
}
