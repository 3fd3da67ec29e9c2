package micro_test

import (
	"strconv"
	"testing"

	"ferrybridge/api"
	"ferrybridge/decode"
	"ferrybridge/hart"
)

// checkAtom does an atomic small step with several registers as D, A and B: D becomes w, all else is as want says.
func checkAtom(t *testing.T, name string, op int, h api.Hart, m []byte, w uint32, want api.Did) {
	t.Helper()
	want.Steps, want.Hart.PC = 1, place+4
	for _, d := range []int{7, 5, 6, 31} {
		is := want
		is.Hart.Regs[d] = w
		one(h, m, api.Micro{Op: api.MAtom + op, D: d, A: 5, B: 6}).check(t, name, is)
	}
	one(h, m, api.Micro{Op: api.MAtom + op, A: 5, B: 6}).check(t, name+", register 0", want)
	sets := row(api.Micro{Op: api.MSet, D: 33, N: h.Regs[5]}, api.Micro{Op: api.MSet, D: 34, N: h.Regs[6]})
	for _, d := range []int{33, 34, 35} {
		code := append(sets, api.Micro{Op: api.MAtom + op, D: d, A: 33, B: 34}, api.Micro{Op: api.MAluN + api.OR, D: 9, A: d})
		is := want
		is.Hart.Regs[9] = w
		one(h, m, code...).check(t, name+", above 31", is)
	}
}

// TestAmo: G2, G3: AMOSWAP to AMOMAXU: the word becomes what it is to, D what it was, its bytes are told; a reservation of the hart's own stays.
func TestAmo(t *testing.T) {
	for op, want := range map[int][2]uint32{
		api.AMOSWAP: {3, 0xfffffffe}, api.AMOADD: {0x80000008, 5}, api.AMOXOR: {0x80000006, 0xfffffff9},
		api.AMOAND: {1, 6}, api.AMOOR: {0x80000007, ones},
		api.AMOMIN: {0x80000005, 0xfffffffe}, api.AMOMAX: {3, 7}, api.AMOMINU: {3, 7}, api.AMOMAXU: {0x80000005, 0xfffffffe},
	} {
		name := "op " + strconv.Itoa(op)
		for _, h := range []api.Hart{fresh(36, 3), held(fresh(36, 3), 36), held(fresh(36, 3), 40)} {
			checkAtom(t, name, op, h, data(), 0x80000005, api.Did{Hart: h, Memory: lay(data(), 36, want[0]), Stores: []api.Range{{From: 36, To: 40}}})
		}
		for _, p := range []uint32{0, length - 4} {
			h := fresh(p, 0xfffffffe)
			m := lay(data(), int(p), 7)
			checkAtom(t, name+" at the edge", op, h, m, 7, api.Did{Hart: h, Memory: lay(m, int(p), want[1]), Stores: []api.Range{{From: p, To: p + 4}}})
		}
	}
}

// TestReserve: G2: LRW makes a reservation, also where there is another one, and stores nothing; B is not asked.
func TestReserve(t *testing.T) {
	for p, w := range map[uint32]uint32{32: 0x84739281, 36: 0x80000005, length - 4: 0x7a6b9c8d, 0: 0} {
		for _, h := range []api.Hart{fresh(p, 2), held(fresh(p, ones), 32), held(fresh(p, 2), 0), held(fresh(p, 2), ones)} {
			checkAtom(t, "LRW at "+strconv.Itoa(int(p)), api.LRW, h, data(), w, api.Did{Hart: held(h, p), Memory: data()})
		}
	}
}

// TestConditional: G2, G3: SCW stores, if the hart is held at just this place, and tells its bytes; else not; it is held no more in both cases.
func TestConditional(t *testing.T) {
	for _, p := range []uint32{0, 32, length - 4} {
		h := fresh(p, 0xa1b2c3d4)
		checkAtom(t, "SCW, met", api.SCW, held(h, p), data(), 0, api.Did{Hart: h, Memory: lay(data(), int(p), 0xa1b2c3d4), Stores: []api.Range{{From: p, To: p + 4}}})
		checkAtom(t, "SCW, none", api.SCW, h, data(), 1, api.Did{Hart: h, Memory: data()})
		for _, other := range []uint32{p + 4, p + 1, p ^ 1<<31, p - 4, ones} {
			checkAtom(t, "SCW, held elsewhere", api.SCW, held(h, other), data(), 1, api.Did{Hart: h, Memory: data()})
		}
	}
}

// TestReservations: G2: a reservation that is made in a row is met in it, also by a later instruction, and only once.
func TestReservations(t *testing.T) {
	h := fresh(32, 77)
	reserve := api.Micro{Op: api.MAtom + api.LRW, D: 9, A: 5}
	met := func(d int) api.Micro { return api.Micro{Op: api.MAtom + api.SCW, D: d, A: 5, B: 6} }
	code := row(begins(0), reserve, begins(4), met(10), begins(8), met(11), api.Micro{Op: api.MAtom + api.SCW, D: 12, A: 0, B: 6})
	want := at(set(set(set(set(h, 9, 0x84739281), 10, 0), 11, 1), 12, 1), 12)
	given{code: code, hart: h, memory: data(), steps: 9}.check(t, "met once", api.Did{Hart: want, Memory: lay(data(), 32, 77), Steps: 3, Stores: []api.Range{{From: 32, To: 36}}})
	given{code: code, hart: h, memory: data(), steps: 1}.check(t, "made", api.Did{Hart: held(at(set(h, 9, 0x84739281), 4), 32), Memory: data(), Steps: 1})
}

// TestAtomTraps: G2: where no word is, LRW traps with CauseLoad, the others with CauseStore, also an SCW that would not store: D and the reservation stay.
func TestAtomTraps(t *testing.T) {
	for op := api.LRW; op <= api.AMOMAXU; op++ {
		cause := api.CauseStore
		if op == api.LRW {
			cause = api.CauseLoad
		}
		for _, p := range []uint32{1, 33, 34, 35, length - 2, length, length + 4, 1 << 31, ones - 3, ones} {
			for _, h := range []api.Hart{fresh(p, 2), held(fresh(p, 2), p), held(fresh(p, 2), 32)} {
				checkTrap(t, "op "+strconv.Itoa(op)+" at "+strconv.Itoa(int(p)), h, data(), cause, api.Micro{Op: api.MAtom + op, A: 5, B: 6}, 0, 5, 6, 7, 35)
			}
		}
	}
}

// TestAtomAsStep: G2: an atomic small step does what a hart's own step does of the instruction with the same registers.
func TestAtomAsStep(t *testing.T) {
	s := strewn(3)
	for range 20000 {
		h, m := s.world()
		i := api.Ins{Op: api.LRW + int(s.below(11)), Rd: int(s.below(6)), Rs1: int(s.below(6)), Rs2: int(s.below(6))}
		if i.Op == api.LRW {
			i.Rs2 = 0
		}
		w, e := decode.Encode(i)
		if e != api.OK || len(m) < 4 {
			continue
		}
		h.PC = 4 * s.below(uint32(len(m)/4))
		m = lay(m, int(h.PC), w)
		want, wantM, _, _ := hart.Step(h, m)
		g := given{code: row(begins(h.PC), api.Micro{Op: api.MAtom + i.Op, D: i.Rd, A: i.Rs1, B: i.Rs2}), hart: h, memory: m, steps: 1}
		d, ok := g.run(t, "an atomic one")
		d.Stores = nil
		if !ok || !same(d, api.Did{Hart: want, Memory: wantM, Steps: 1}) {
			t.Fatalf("%v of %v: %v, want %v, %v", i, h, d, want, wantM)
		}
	}
}
