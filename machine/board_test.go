package machine_test

import (
	"bytes"
	"reflect"
	"slices"
	"testing"

	"ferrybridge/api"
	"ferrybridge/machine"
)

// TestWorkAndTake: Work tells what a hart would do, the board staying as it is; Take makes it true.
func TestWorkAndTake(t *testing.T) {
	m := filled(t, api.Ins{Op: api.SB, Rs1: 5, Rs2: 6, Imm: 3}, api.Ins{Op: api.ECALL}, api.Ins{Op: api.SW, Rs1: 5, Rs2: 6, Imm: 32}, api.Ins{Op: api.EBREAK})
	h := storer(128, 0x01020304)
	h.Regs[10], h.Regs[17] = 42, 1
	b, e := machine.NewBoard(api.Machine{Memory: m, Harts: []api.Hart{held(full(2), 130), h}}, nil)
	if e != api.OK {
		t.Fatal(e)
	}
	harts := slices.Clone(b.Machine.Harts)
	did := b.Work(api.Pick{Hart: 1, Steps: 9})
	if !bytes.Equal(b.Machine.Memory, m) || !slices.Equal(b.Machine.Harts, harts) || len(b.Out) != 0 || b.Steps != 0 {
		t.Errorf("Work changed the board: %v", b)
	}
	after := trapped(h, api.CauseBreak)
	after.PC = 12
	memory := bytes.Clone(m)
	memory[131] = 4
	put(memory, 160, 0x01020304)
	want := api.Did{Hart: after, Memory: memory, Out: []uint32{42}, Steps: 4, Stores: []api.Range{{From: 131, To: 132}, {From: 160, To: 164}}}
	if !reflect.DeepEqual(did, want) {
		t.Errorf("Work: %v, want %v", did, want)
	}
	b.Take(1, did)
	if !bytes.Equal(b.Machine.Memory, memory) || !slices.Equal(b.Machine.Harts, []api.Hart{full(2), after}) || !slices.Equal(b.Out, []uint32{42}) || b.Steps != 4 {
		t.Errorf("Take: %v", b)
	}
	if did := b.Work(api.Pick{Hart: 1, Steps: 9}); did.Hart != after || did.Steps != 0 || len(did.Out) != 0 || len(did.Stores) != 0 {
		t.Errorf("Work of a hart that does not run: %v", did)
	}
}

// TestLost: which harts lose by a store, by number, with their places, and never the one that stores.
func TestLost(t *testing.T) {
	m := filled(t)
	b, e := machine.NewBoard(api.Machine{Memory: m, Harts: []api.Hart{held(full(1), 128), held(full(2), 125), full(3), held(full(4), 131)}}, nil)
	if e != api.OK {
		t.Fatal(e)
	}
	for _, c := range []struct {
		number int
		r      api.Range
		want   []api.Lost
	}{
		{2, api.Range{From: 128, To: 132}, []api.Lost{{Hart: 0, At: 128}, {Hart: 1, At: 125}, {Hart: 3, At: 131}}},
		{0, api.Range{From: 128, To: 132}, []api.Lost{{Hart: 1, At: 125}, {Hart: 3, At: 131}}},
		{3, api.Range{From: 128, To: 132}, []api.Lost{{Hart: 0, At: 128}, {Hart: 1, At: 125}}},
		{2, api.Range{From: 129, To: 130}, []api.Lost{{Hart: 0, At: 128}}},
		{2, api.Range{From: 132, To: 136}, []api.Lost{{Hart: 3, At: 131}}},
		{0, api.Range{From: 129, To: 130}, nil},
		{1, api.Range{From: 0, To: 4}, nil},
	} {
		if got := b.Lost(c.number, c.r); !slices.Equal(got, c.want) {
			t.Errorf("Lost(%d, %v) = %v, want %v", c.number, c.r, got, c.want)
		}
	}
	b, _ = machine.NewBoard(api.Machine{Harts: []api.Hart{full(1), held(full(2), ones-2), held(full(3), ones-5)}}, nil)
	if got := b.Lost(0, api.Range{From: ones - 1, To: ones}); !slices.Equal(got, []api.Lost{{Hart: 1, At: ones - 2}}) {
		t.Errorf("Lost near 2^32: %v", got)
	}
}
