package undo_test

import (
	"slices"
	"testing"

	"ferrybridge/api"
)

// TestLostRising: L1: several other harts that are Held no more by one step, by number, rising, each with its own place; whichever hart it is that stores, whether they run or not.
func TestLostRising(t *testing.T) {
	places := []uint32{131, 128, 125, 130}
	for name, kind := range stores {
		if kind.size != 4 {
			continue
		}
		m := filled(t, api.Ins{Op: kind.op, Rs1: 5, Rs2: 6})
		for number := range api.MaxHarts {
			harts := []api.Hart{held(full(1), places[0]), held(halted(full(2)), places[1]), held(trapped(full(3), api.CauseLoad), places[2]), held(full(4), places[3])}
			harts[number] = held(storer(128, 77), 128)
			var want []api.Lost
			for k, at := range places {
				if k != number {
					want = append(want, api.Lost{Hart: k, At: at})
				}
			}
			s, l := run(t, name, of(m, harts...), api.Pick{Hart: number, Steps: 1})
			if !sameUndo(l[0], api.Undo{Hart: number, Was: harts[number], From: 128, Bytes: m[128:132], Lost: want}) {
				t.Errorf("%s by hart %d: %v, want %v", name, number, l[0], want)
			}
			if got := back(t, name, s.Machine, l, 1); !sameMachine(got, of(m, harts...)) {
				t.Errorf("%s by hart %d: back is %v", name, number, got.Harts)
			}
		}
	}
}

// TestLostByByte: L1 and E2: a store tells the harts whose word has one of its bytes, and no others; words near 2^32 do not go round.
func TestLostByByte(t *testing.T) {
	for _, c := range []struct {
		op   int
		at   uint32
		want []api.Lost
	}{
		{api.SB, 127, nil},
		{api.SB, 128, []api.Lost{{Hart: 1, At: 128}}},
		{api.SB, 130, []api.Lost{{Hart: 1, At: 128}, {Hart: 2, At: 130}}},
		{api.SB, 133, []api.Lost{{Hart: 2, At: 130}}},
		{api.SB, 134, nil},
		{api.SH, 126, nil},
		{api.SH, 130, []api.Lost{{Hart: 1, At: 128}, {Hart: 2, At: 130}}},
		{api.SH, 132, []api.Lost{{Hart: 2, At: 130}}},
		{api.SW, 124, nil},
		{api.SW, 132, []api.Lost{{Hart: 2, At: 130}}},
		{api.SW, 0, nil},
		{api.SB, 0, nil},
	} {
		m := filled(t, api.Ins{Op: c.op, Rs1: 5, Rs2: 6})
		before := of(m, storer(c.at, 1), held(full(2), 128), held(full(3), 130), held(full(4), ones-1))
		if _, u := one(t, "by byte", before); !slices.Equal(u.Lost, c.want) {
			t.Errorf("op %d at %d: %v, want %v", c.op, c.at, u.Lost, c.want)
		}
	}
}

// TestLostOnce: L1: who is Held no more is told by the step that made it so, and not again; who is Held anew, is told anew.
func TestLostOnce(t *testing.T) {
	m := filled(t, api.Ins{Op: api.SW, Rs1: 5, Rs2: 6}, api.Ins{Op: api.SW, Rs1: 5, Rs2: 6}, api.Ins{Op: api.SB, Rs1: 5, Rs2: 6})
	m = lay(t, m, 64, api.Ins{Op: api.LRW, Rd: 7, Rs1: 5})
	other := held(storer(128, 1), 130)
	other.PC = 64
	before := of(m, storer(128, 9), other)
	_, l := run(t, "once", before, api.Pick{Hart: 0, Steps: 2}, api.Pick{Hart: 1, Steps: 1}, api.Pick{Hart: 0, Steps: 1})
	for k, want := range [][]api.Lost{{{Hart: 1, At: 130}}, nil, nil, {{Hart: 1, At: 128}}} {
		if !slices.Equal(l[k].Lost, want) {
			t.Errorf("step %d: %v, want %v", k, l[k].Lost, want)
		}
	}
	checkAllBack(t, "once", before, []api.Pick{{Hart: 0, Steps: 2}, {Hart: 1, Steps: 1}, {Hart: 0, Steps: 1}})
}

// TestOwnIsNotLost: L1: a hart's own store does not make it lose, and its own SCW, which ends what it had reserved, is told by Was alone.
func TestOwnIsNotLost(t *testing.T) {
	for name, kind := range stores {
		m := filled(t, api.Ins{Op: kind.op, Rs1: 5, Rs2: 6})
		before := of(m, held(storer(128, 9), 128), full(2))
		s, u := one(t, name, before)
		if len(u.Lost) != 0 || !u.Was.Held || u.Was.HeldAt != 128 || s.Machine.Harts[0].Held != (kind.op != api.SCW) {
			t.Errorf("%s: %v", name, u)
		}
	}
}
