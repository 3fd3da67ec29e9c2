package micro_test

import (
	"strconv"
	"testing"

	"ferrybridge/api"
)

// TestCall: G2, G3: MCall: 0 halts, 1 lets Regs[10] come out, and goes on; others trap.
func TestCall(t *testing.T) {
	call := api.Micro{Op: api.MCall}
	for _, w := range []uint32{0, 5, 1 << 31, ones} {
		h := set(set(fresh(1, 2), 17, 1), 10, w)
		one(h, data(), call, after()).check(t, "1", api.Did{Hart: at(set(h, 8, 88), place+4), Memory: data(), Out: []uint32{w}, Steps: 1})
		given{code: row(call), hart: h}.check(t, "1 at first", api.Did{Hart: h, Out: []uint32{w}})
		h = set(h, 17, 0)
		halted := h
		halted.State = api.Halted
		one(h, data(), call, after(), begins(4)).check(t, "0", api.Did{Hart: halted, Memory: data(), Steps: 1})
		given{code: row(call, after(), begins(4)), hart: h, steps: 9}.check(t, "0 at first", api.Did{Hart: halted})
		given{code: row(begins(84), begins(91), call, after(), begins(4)), hart: held(h, 4), steps: 9}.check(t, "0 behind others", api.Did{Hart: held(at(halted, 91), 4), Steps: 2})
	}
	for _, n := range []uint32{2, 3, 93, 1 << 31, 1<<31 + 1, ones} {
		checkTrap(t, "Regs[17] is "+strconv.Itoa(int(n)), held(set(fresh(1, 2), 17, n), 4), data(), api.CauseCall, call, 0)
	}
}

// TestBreak: G2: MBreak traps with CauseBreak, whatever Regs[17] is.
func TestBreak(t *testing.T) {
	for _, n := range []uint32{0, 1, 2, ones} {
		checkTrap(t, "MBreak", held(set(fresh(1, 2), 17, n), 4), data(), api.CauseBreak, api.Micro{Op: api.MBreak}, 0)
	}
}

// TestStopBySteps: G2: an MAt stops, if steps instructions are done: PC becomes its N, and nothing behind it is done.
func TestStopBySteps(t *testing.T) {
	h := fresh(1, 2)
	places := []uint32{100, 7, 0, ones, 1 << 31}
	var code []api.Micro
	for k, p := range places {
		code = append(code, begins(p), api.Micro{Op: api.MSet, D: 20 + k, N: p})
	}
	want := h
	for steps, p := range places {
		given{code: code, hart: h, steps: steps}.check(t, strconv.Itoa(steps)+" steps", api.Did{Hart: at(want, p), Steps: steps})
		want.Regs[20+steps] = p
	}
	for _, steps := range []int{5, 6, api.MaxSteps} {
		given{code: code, hart: h, steps: steps}.check(t, "all of them", api.Did{Hart: at(want, 1<<31+4), Steps: 5})
	}
	ahead := row(after(), begins(100), api.Micro{Op: api.MSet, D: 9, N: 1})
	given{code: ahead, hart: h}.check(t, "small steps ahead of the first MAt", api.Did{Hart: at(set(h, 8, 88), 100)})
	leaves := row(begins(100), api.Micro{Op: api.MGo, N: 50}, begins(60))
	given{code: leaves, hart: h, steps: 1}.check(t, "it leaves ahead of the MAt", api.Did{Hart: at(h, 50), Steps: 1})
}

// stores are the small steps that store, each with how many bytes it stores in.
func stores() map[int]uint32 {
	all := map[int]uint32{api.MStore + api.SB: 1, api.MStore + api.SH: 2, api.MStore + api.SW: 4}
	for op := api.SCW; op <= api.AMOMAXU; op++ {
		all[api.MAtom+op] = 4
	}
	return all
}

// stored is what a row whose first instruction, at 100, stores 0 in size bytes at p and whose second one stands at 104 leaves: of whether it stops there.
func stored(h api.Hart, p, size uint32, stops bool) api.Did {
	zeros := make([]byte, size)
	d := api.Did{Hart: at(set(h, 8, 88), 108), Memory: put(make([]byte, length), int(p), zeros...), Steps: 2, Stores: []api.Range{{From: p, To: p + size}}}
	if stops {
		d.Hart, d.Steps = at(h, 104), 1
	}
	return d
}

// TestStopByOwn: G2: an MAt stops, if something was stored in a byte of own, by whichever store, and not, if only next to them.
func TestStopByOwn(t *testing.T) {
	for op, size := range stores() {
		for p := uint32(16); p <= 40; p += size {
			for _, own := range []api.Range{
				{From: 24, To: 32}, {From: 24, To: 25}, {From: 27, To: 28}, {From: 25, To: 31}, {From: 26, To: 30}, {From: 28, To: 28}, {From: 26, To: 26},
				{From: 32, To: 24}, {From: 28, To: 27}, {From: ones, To: 0}, {From: 0, To: ones}, {From: 0, To: 0}, {From: 30, To: ones}, {From: 0, To: 26}, {From: length, To: 2 * length}, {From: 1 << 31, To: ones},
			} {
				meets := false
				for k := p; k < p+size; k++ {
					meets = meets || own.From <= k && k < own.To
				}
				h := fresh(p, 0)
				small := api.Micro{Op: op, A: 5, B: 6}
				if op == api.MAtom+api.SCW {
					h = held(h, p)
				}
				want := stored(h, p, size, meets)
				want.Hart.Held, want.Hart.HeldAt = false, 0
				g := given{code: row(begins(100), small, begins(104), after()), hart: h, memory: make([]byte, length), own: own, steps: 9}
				g.check(t, "op "+strconv.Itoa(op)+" at "+strconv.Itoa(int(p))+", own from "+strconv.Itoa(int(own.From))+" to "+strconv.Itoa(int(own.To)), want)
			}
		}
	}
}

// TestStopLater: G2: a store in own stops no sooner than at the next MAt, and at that one, however many stores stood between; also one ahead of the first MAt.
func TestStopLater(t *testing.T) {
	h := fresh(24, 0)
	own := api.Range{From: 24, To: 28}
	inside := api.Micro{Op: api.MStore + api.SB, A: 5, B: 6, N: 3}
	outside := api.Micro{Op: api.MStore + api.SB, A: 5, B: 6, N: 4}
	in, out := api.Range{From: 27, To: 28}, api.Range{From: 28, To: 29}
	m := make([]byte, length)
	for _, c := range []struct {
		name   string
		code   []api.Micro
		pc     uint32
		is     uint32
		steps  int
		stores []api.Range
	}{
		{"what is left of the instruction is done", row(begins(100), inside, after(), begins(104)), 104, 88, 1, []api.Range{in}},
		{"a store outside behind it", row(begins(100), inside, outside, after(), begins(104)), 104, 88, 1, []api.Range{in, out}},
		{"a store outside ahead of it", row(begins(100), outside, inside, begins(104), after()), 104, 0, 1, []api.Range{out, in}},
		{"in the second instruction", row(begins(100), outside, begins(104), inside, begins(108), after()), 108, 0, 2, []api.Range{out, in}},
		{"twice", row(begins(100), inside, inside, begins(104), after()), 104, 0, 1, []api.Range{in, in}},
		{"ahead of the first MAt", row(inside, begins(100), after()), 100, 0, 0, []api.Range{in}},
		{"no MAt behind it", row(begins(100), inside, after()), 104, 88, 1, []api.Range{in}},
		{"no MAt at all", row(inside, after()), place, 88, 0, []api.Range{in}},
		{"a jump behind it", row(begins(100), inside, api.Micro{Op: api.MGo, N: 7}, begins(104)), 7, 0, 1, []api.Range{in}},
		{"only outside", row(begins(100), outside, begins(104), outside, after()), 108, 88, 2, []api.Range{out, out}},
	} {
		want := at(h, c.pc)
		if c.is != 0 {
			want.Regs[8] = c.is
		}
		given{code: c.code, hart: h, memory: m, own: own, steps: 9}.check(t, c.name, api.Did{Hart: want, Memory: m, Steps: c.steps, Stores: c.stores})
	}
}

// TestNoStore: G2, G3: what does not store in own does not stop: a load, LRW, an SCW that is not met; that the same byte is put there again does.
func TestNoStore(t *testing.T) {
	h := fresh(32, 0x84739281)
	own := api.Range{From: 32, To: 36}
	for name, small := range map[string]api.Micro{
		"LW": {Op: api.MLoad + api.LW, A: 5}, "SCW": {Op: api.MAtom + api.SCW, A: 5, B: 6}, "ADD": {Op: api.MAlu + api.ADD, A: 5, B: 6},
	} {
		g := given{code: row(begins(100), small, begins(104), after()), hart: h, memory: data(), own: own, steps: 9}
		g.check(t, name, api.Did{Hart: at(set(h, 8, 88), 108), Memory: data(), Steps: 2})
	}
	g := given{code: row(begins(100), api.Micro{Op: api.MAtom + api.LRW, A: 5}, begins(104), after()), hart: h, memory: data(), own: own, steps: 9}
	g.check(t, "LRW", api.Did{Hart: held(at(set(h, 8, 88), 108), 32), Memory: data(), Steps: 2})
	for name, small := range map[string]api.Micro{
		"SW": {Op: api.MStore + api.SW, A: 5, B: 6}, "AMOADD": {Op: api.MAtom + api.AMOADD, A: 5}, "AMOMAX": {Op: api.MAtom + api.AMOMAX, A: 5, B: 6},
	} {
		g := given{code: row(begins(100), small, begins(104), after()), hart: h, memory: data(), own: own, steps: 9}
		g.check(t, name+" of what is there", api.Did{Hart: at(h, 104), Memory: data(), Steps: 1, Stores: []api.Range{own}})
	}
}

// TestEnd: G2: behind the last one PC becomes here and 4 together, which goes round; if no instruction is done it stays.
func TestEnd(t *testing.T) {
	for _, p := range []uint32{0, 1, 8, 1 << 31, ones - 4, ones - 3, ones} {
		h := fresh(1, 2)
		given{code: row(begins(p)), hart: h, steps: 1}.check(t, "one", api.Did{Hart: at(h, p+4), Steps: 1})
		given{code: row(begins(50), begins(p), after()), hart: h, steps: 2}.check(t, "two", api.Did{Hart: at(set(h, 8, 88), p+4), Steps: 2})
		h.PC = p
		given{code: row(after()), hart: h, steps: 1}.check(t, "no instruction", api.Did{Hart: set(h, 8, 88)})
		given{hart: h}.check(t, "no small steps", api.Did{Hart: h})
	}
}
