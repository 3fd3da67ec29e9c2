package micro_test

import (
	"bytes"
	"slices"
	"testing"

	"ferrybridge/api"
	"ferrybridge/micro"
)

// long is a row in which each kind of store is done, and something comes out thrice; and what it leaves.
func long() (given, api.Did) {
	h := set(set(held(fresh(32, 77), 40), 17, 1), 10, 1000)
	call := api.Micro{Op: api.MCall}
	code := row(
		begins(0), api.Micro{Op: api.MStore + api.SW, A: 5, B: 6, N: 4}, call,
		begins(4), api.Micro{Op: api.MStore + api.SB, A: 5, B: 6, N: 1}, api.Micro{Op: api.MSet, D: 10, N: 2000}, call,
		begins(8), api.Micro{Op: api.MAtom + api.SCW, D: 20, B: 6}, api.Micro{Op: api.MAtom + api.AMOADD, D: 21, A: 5, B: 6},
		begins(12), api.Micro{Op: api.MAtom + api.LRW, D: 22}, api.Micro{Op: api.MAtom + api.SCW, D: 23, B: 6}, call,
		begins(16), api.Micro{Op: api.MStore + api.SH, A: 5, B: 6, N: 30}, api.Micro{Op: api.MStore + api.SH, A: 5, B: 6, N: 31}, after(),
	)
	m := lay(make([]byte, length), 32, 5)
	want := trapped(set(set(set(set(set(h, 10, 2000), 20, 1), 21, 77<<8+5), 22, 0), 23, 0), 16, api.CauseStore)
	want.Held, want.HeldAt = false, 0
	left := put(lay(lay(lay(make([]byte, length), 32, 77<<8+5+77), 36, 77), 0, 77), 62, 77)
	stores := []api.Range{{From: 36, To: 40}, {From: 33, To: 34}, {From: 32, To: 36}, {From: 0, To: 4}, {From: 62, To: 64}}
	return given{code: code, hart: h, memory: m, own: api.Range{From: 48, To: 60}, steps: 9}, api.Did{Hart: want, Memory: left, Out: []uint32{1000, 2000, 2000}, Steps: 5, Stores: stores}
}

// TestDid: G3: all of what a row did, in order: what came out, how many instructions (with the one that traps), each store's bytes.
func TestDid(t *testing.T) {
	g, want := long()
	g.check(t, "long", want)
	for _, own := range []api.Range{{From: 36, To: 37}, {From: 39, To: 50}} {
		g := g
		g.own = own
		d, ok := g.run(t, "stopped")
		if !ok || d.Steps != 1 || d.Hart.PC != 4 || !slices.Equal(d.Out, want.Out[:1]) || !slices.Equal(d.Stores, want.Stores[:1]) {
			t.Errorf("stopped by own: %v", d)
		}
	}
	for steps, count := range []struct{ out, stores int }{{0, 0}, {1, 1}, {2, 2}, {2, 3}, {3, 4}} {
		g.steps = steps
		d, ok := g.run(t, "fewer steps")
		if !ok || d.Steps != steps || d.Hart.PC != uint32(4*steps) || d.Hart.State != api.Runs {
			t.Errorf("%d steps: %v", steps, d)
		}
		if !slices.Equal(d.Out, want.Out[:count.out]) || !slices.Equal(d.Stores, want.Stores[:count.stores]) {
			t.Errorf("%d steps: %v, %v", steps, d.Out, d.Stores)
		}
	}
}

// TestMostStores: G3: as many stores and as much that comes out as a row can have.
func TestMostStores(t *testing.T) {
	var stores []api.Range
	var code []api.Micro
	m := make([]byte, api.MaxMemory)
	for k := range uint32(api.MaxMicro) {
		code = append(code, api.Micro{Op: api.MStore + api.SB, B: 6, N: 20 * k})
		stores = append(stores, api.Range{From: 20 * k, To: 20*k + 1})
		m[20*k] = 77
	}
	h := fresh(32, 77)
	given{code: code, hart: h, memory: make([]byte, api.MaxMemory)}.check(t, "stores", api.Did{Hart: h, Memory: m, Stores: stores})
	h = set(h, 17, 1)
	code = slices.Repeat(row(api.Micro{Op: api.MCall}), api.MaxMicro)
	given{code: code, hart: h}.check(t, "out", api.Did{Hart: h, Out: slices.Repeat([]uint32{h.Regs[10]}, api.MaxMicro)})
}

// spoil writes over all that a Did has.
func spoil(d api.Did) {
	for k := range d.Memory {
		d.Memory[k] += 100
	}
	for k := range d.Out {
		d.Out[k] += 100
	}
	for k := range d.Stores {
		d.Stores[k].From += 100
	}
}

// TestShared: P3: what comes out shares nothing with what was handed in, nor with another answer, also where nothing was stored.
func TestShared(t *testing.T) {
	g, _ := long()
	quiet := given{code: row(begins(4), after()), hart: g.hart, memory: data(), steps: 1}
	stopped := given{code: quiet.code, hart: g.hart, memory: data()}
	empty := given{hart: g.hart, memory: data()}
	for _, g := range []given{g, quiet, stopped, empty} {
		code, memory := slices.Clone(g.code), bytes.Clone(g.memory)
		d, _ := micro.Run(g.code, g.hart, g.memory, g.own, g.steps)
		again, _ := micro.Run(g.code, g.hart, g.memory, g.own, g.steps)
		third, _ := micro.Run(g.code, g.hart, g.memory, g.own, g.steps)
		if !same(d, again) || !same(d, third) {
			t.Errorf("%v, then %v, then %v", d, again, third)
		}
		spoil(d)
		if !slices.Equal(code, g.code) || !bytes.Equal(memory, g.memory) || !same(again, third) {
			t.Errorf("%v: an answer lies on what was handed in, or on another one", g.code)
		}
		for k := range g.memory {
			g.memory[k] += 50
		}
		clear(g.code)
		spoil(third)
		if last, _ := micro.Run(code, g.hart, memory, g.own, g.steps); !same(again, last) {
			t.Errorf("%v: what was handed in lies on an answer", code)
		}
	}
}

// TestBehindLength: P3: small steps and bytes behind the length are neither read nor written.
func TestBehindLength(t *testing.T) {
	h := fresh(32, 77)
	whole := data()
	store := api.Micro{Op: api.MStore + api.SW, A: 5, B: 6}
	g := one(h, whole[:32], store)
	g.check(t, "a store behind the length", api.Did{Hart: trapped(h, place, api.CauseStore), Memory: whole[:32], Steps: 1})
	one(h, whole[:34], store).check(t, "half of it", api.Did{Hart: trapped(h, place, api.CauseStore), Memory: whole[:34], Steps: 1})
	one(h, whole[:34], api.Micro{Op: api.MLoad + api.LW, A: 5}).check(t, "a load", api.Did{Hart: trapped(h, place, api.CauseLoad), Memory: whole[:34], Steps: 1})
	code := row(begins(place), after(), store, api.Micro{Op: 77})
	given{code: code[:2], hart: h, memory: whole[:32], steps: 1}.check(t, "small steps behind the length", api.Did{Hart: at(set(h, 8, 88), place+4), Memory: whole[:32], Steps: 1})
	d, _ := micro.Run(code[:2], h, whole[:32], api.Range{}, 1)
	_ = append(d.Memory, 1, 2, 3, 4)
	if !bytes.Equal(whole, data()) || code[2] != store {
		t.Errorf("what lies behind the length became %v, %v", whole, code)
	}
}
