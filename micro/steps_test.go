package micro_test

import (
	"strconv"
	"testing"

	"ferrybridge/api"
	"ferrybridge/word"
)

// TestAlu: G2: each operation, of A and B and of A and N, in this order; D may be one of them, or one above 31.
func TestAlu(t *testing.T) {
	for op := api.ADD; op <= api.REMU; op++ {
		name := "op " + strconv.Itoa(op)
		for _, p := range [][2]uint32{{0x80000005, 3}, {3, 0x80000005}, {0xfffffffe, ones}, {7, 0}, {1 << 31, ones}, {100, 7}} {
			w := word.Alu(op, p[0], p[1])
			h := fresh(p[0], p[1])
			for _, d := range []int{7, 5, 6, 31} {
				want := api.Did{Hart: at(set(h, d, w), place+4), Steps: 1}
				one(h, nil, api.Micro{Op: api.MAlu + op, D: d, A: 5, B: 6}).check(t, name, want)
				one(h, nil, api.Micro{Op: api.MAluN + op, D: d, A: 5, N: p[1]}).check(t, name+" with N", want)
			}
			zero := api.Did{Hart: at(h, place+4), Steps: 1}
			one(h, nil, api.Micro{Op: api.MAlu + op, A: 5, B: 6}).check(t, name+", register 0", zero)
			one(h, nil, api.Micro{Op: api.MAluN + op, A: 5, N: p[1]}).check(t, name+" with N, register 0", zero)
			above := api.Did{Hart: at(set(h, 9, w), place+4), Steps: 1}
			sets := row(api.Micro{Op: api.MSet, D: 33, N: p[0]}, api.Micro{Op: api.MSet, D: 35, N: p[1]})
			moves := api.Micro{Op: api.MAluN + api.OR, D: 9, A: 35}
			one(h, nil, append(sets, api.Micro{Op: api.MAlu + op, D: 35, A: 33, B: 35}, moves)...).check(t, name+", above 31", above)
			one(h, nil, append(sets, api.Micro{Op: api.MAluN + op, D: 35, A: 33, N: p[1]}, moves)...).check(t, name+" with N, above 31", above)
		}
	}
}

// TestAluNumbers: G2: operations whose answers are told here, so that those of A and B and those of A and N stand for the right ones.
func TestAluNumbers(t *testing.T) {
	for op, w := range map[int]uint32{
		api.ADD: 0x80000008, api.SUB: 0x80000002, api.SLL: 0x28, api.SLT: 1, api.SLTU: 0, api.XOR: 0x80000006,
		api.SRL: 0x10000000, api.SRA: 0xf0000000, api.OR: 0x80000007, api.AND: 1, api.MUL: 0x8000000f,
		api.MULH: 0xfffffffe, api.MULHU: 1, api.DIV: 0xd5555557, api.DIVU: 0x2aaaaaac, api.REM: 0, api.REMU: 1,
	} {
		h := fresh(0x80000005, 3)
		want := api.Did{Hart: at(set(h, 7, w), place+4), Steps: 1}
		one(h, nil, api.Micro{Op: api.MAlu + op, D: 7, A: 5, B: 6}).check(t, "op "+strconv.Itoa(op), want)
		one(h, nil, api.Micro{Op: api.MAluN + op, D: 7, A: 5, N: 3}).check(t, "op "+strconv.Itoa(op)+" with N", want)
	}
}

// after is a small step whose effect would be seen, if it were done.
func after() api.Micro { return api.Micro{Op: api.MSet, D: 8, N: 88} }

// TestGo: G2: MGo and MGoReg make PC what they say, and nothing behind them is done, also where no instruction is.
func TestGo(t *testing.T) {
	for _, n := range []uint32{0, 1, 2, 99, place, place + 4, 1 << 31, ones} {
		h := fresh(0, 2)
		one(h, nil, api.Micro{Op: api.MGo, N: n}, after()).check(t, "MGo", api.Did{Hart: at(h, n), Steps: 1})
		given{code: row(api.Micro{Op: api.MGo, N: n}, begins(4), after()), hart: h, steps: 9}.check(t, "MGo at first", api.Did{Hart: at(h, n)})
		given{code: row(api.Micro{Op: api.MGo, N: n}), hart: h}.check(t, "MGo with no steps", api.Did{Hart: at(h, n)})
		one(h, nil, begins(20), api.Micro{Op: api.MGo, N: n}).check(t, "MGo as the second", api.Did{Hart: at(h, n), Steps: 2})
	}
	for _, c := range []struct{ a, n, to uint32 }{
		{0, 0, 0}, {0, 1, 0}, {1, 0, 0}, {1, 1, 2}, {100, 8, 108}, {100, 7, 106}, {101, 8, 108}, {101, 7, 108},
		{8, ones - 3, 4}, {ones, 1, 0}, {ones, 0, ones - 1}, {1 << 31, 1 << 31, 0}, {1<<31 + 3, 2, 1<<31 + 4}, {7, ones, 6},
	} {
		h := fresh(c.a, 2)
		name := "MGoReg " + strconv.Itoa(int(c.a)) + " + " + strconv.Itoa(int(c.n))
		one(h, nil, api.Micro{Op: api.MGoReg, A: 5, N: c.n}, after()).check(t, name, api.Did{Hart: at(h, c.to), Steps: 1})
		given{code: row(api.Micro{Op: api.MGoReg, A: 5, N: c.n}, begins(4)), hart: h}.check(t, name+" at first", api.Did{Hart: at(h, c.to)})
		above := row(api.Micro{Op: api.MSet, D: 34, N: c.a}, api.Micro{Op: api.MGoReg, A: 34, N: c.n}, after())
		one(h, nil, above...).check(t, name+", above 31", api.Did{Hart: at(h, c.to), Steps: 1})
		one(h, nil, api.Micro{Op: api.MGoReg, N: c.n}).check(t, name+", register 0", api.Did{Hart: at(h, c.n/2*2), Steps: 1})
	}
}

// TestIf: G2: each branch: where it holds, PC becomes N, and nothing behind it is done; else it goes on.
func TestIf(t *testing.T) {
	const s = 0x80000000
	for op, holds := range map[int][5]bool{
		api.BEQ: {true, false, false, false, false}, api.BNE: {false, true, true, true, true},
		api.BLT: {false, true, false, false, true}, api.BGE: {true, false, true, true, false},
		api.BLTU: {false, true, false, true, false}, api.BGEU: {true, false, true, false, true},
	} {
		for k, p := range [5][2]uint32{{5, 5}, {3, 4}, {4, 3}, {3, s}, {s, 3}} {
			name := "op " + strconv.Itoa(op) + ", pair " + strconv.Itoa(k)
			for _, n := range []uint32{0, 1, 99, place, ones} {
				h := fresh(p[0], p[1])
				goes, stays := at(h, n), at(set(h, 8, 88), place+4)
				want := api.Did{Hart: stays, Steps: 1}
				if holds[k] {
					want.Hart = goes
				}
				one(h, nil, api.Micro{Op: api.MIf + op, A: 5, B: 6, N: n}, after()).check(t, name, want)
				above := row(api.Micro{Op: api.MSet, D: 32, N: p[0]}, api.Micro{Op: api.MSet, D: 33, N: p[1]}, api.Micro{Op: api.MIf + op, A: 32, B: 33, N: n}, after())
				one(h, nil, above...).check(t, name+", above 31", want)
				first := given{code: row(api.Micro{Op: api.MIf + op, A: 5, B: 6, N: n}), hart: h}
				want = api.Did{Hart: h}
				if holds[k] {
					want.Hart = goes
				}
				first.check(t, name+" at first", want)
			}
		}
	}
}

// TestIfTwice: G2: a branch that does not hold is followed by another one, and by a further instruction.
func TestIfTwice(t *testing.T) {
	h := fresh(3, 4)
	code := row(begins(place), api.Micro{Op: api.MIf + api.BEQ, A: 5, B: 6, N: 99}, api.Micro{Op: api.MIf + api.BNE, A: 5, B: 6, N: 199}, begins(place+4))
	given{code: code, hart: h, steps: 9}.check(t, "the second holds", api.Did{Hart: at(h, 199), Steps: 1})
	given{code: code, hart: fresh(3, 3), steps: 9}.check(t, "the first holds", api.Did{Hart: at(fresh(3, 3), 99), Steps: 1})
	code[2].Op = api.MIf + api.BGE
	given{code: code, hart: h, steps: 9}.check(t, "none holds", api.Did{Hart: at(h, place+8), Steps: 2})
}

// TestLoad: G2: each load reads at A + N, which goes round, also into what A is in, into register 0 and above 31.
func TestLoad(t *testing.T) {
	for _, c := range []struct {
		op int
		at uint32
		w  uint32
	}{
		{api.LB, 32, 0xffffff81}, {api.LB, 34, 0x73}, {api.LBU, 32, 0x81}, {api.LBU, 35, 0x84},
		{api.LH, 32, 0xffff9281}, {api.LHU, 32, 0x9281}, {api.LH, 34, 0xffff8473}, {api.LHU, 34, 0x8473},
		{api.LW, 32, 0x84739281}, {api.LW, 36, 0x80000005}, {api.LW, length - 4, 0x7a6b9c8d}, {api.LBU, length - 1, 0x7a}, {api.LW, 0, 0},
	} {
		name := "op " + strconv.Itoa(c.op) + " at " + strconv.Itoa(int(c.at))
		for _, n := range []uint32{0, 4, 1, ones, ones - 7, 1 << 31} {
			h := fresh(c.at-n, 2)
			for _, d := range []int{7, 5, 31} {
				want := api.Did{Hart: at(set(h, d, c.w), place+4), Memory: data(), Steps: 1}
				one(h, data(), api.Micro{Op: api.MLoad + c.op, D: d, A: 5, N: n}).check(t, name, want)
			}
			zero := api.Did{Hart: at(h, place+4), Memory: data(), Steps: 1}
			one(h, data(), api.Micro{Op: api.MLoad + c.op, A: 5, N: n}).check(t, name+", register 0", zero)
			above := row(api.Micro{Op: api.MSet, D: 34, N: c.at - n}, api.Micro{Op: api.MLoad + c.op, D: 35, A: 34, N: n}, api.Micro{Op: api.MAluN + api.OR, D: 9, A: 35})
			one(h, data(), above...).check(t, name+", above 31", api.Did{Hart: at(set(h, 9, c.w), place+4), Memory: data(), Steps: 1})
		}
	}
}

// TestLoadTraps: G2: a load where nothing is traps with CauseLoad: D stays, whichever it is, PC becomes here, and nothing behind it is done.
func TestLoadTraps(t *testing.T) {
	for op, places := range map[int][]uint32{
		api.LB: {length, length + 1, ones, 1 << 31}, api.LBU: {length, ones},
		api.LH: {33, length - 1, length, ones - 1}, api.LHU: {1, length, ones},
		api.LW: {33, 34, 35, length - 2, length, ones - 3, 1 << 31},
	} {
		for _, p := range places {
			for _, n := range []uint32{0, 8, ones} {
				h := held(fresh(p-n, 2), 32)
				checkTrap(t, "op "+strconv.Itoa(op)+" at "+strconv.Itoa(int(p)), h, data(), api.CauseLoad, api.Micro{Op: api.MLoad + op, A: 5, N: n}, 0, 5, 7, 35)
			}
		}
	}
}

// checkTrap: a small step, with each of these as D, lets the hart trap: as the first one, within an instruction, and behind others whose doings stay.
func checkTrap(t *testing.T, name string, h api.Hart, m []byte, cause int, small api.Micro, ds ...int) {
	t.Helper()
	for _, d := range ds {
		small.D = d
		first := given{code: row(small, after(), begins(4), after()), hart: h, memory: m, steps: 9}
		first.check(t, name+" at first", api.Did{Hart: trapped(h, place, cause), Memory: m})
		first.steps = 0
		first.check(t, name+" with no steps", api.Did{Hart: trapped(h, place, cause), Memory: m})
		one(h, m, small, after(), begins(4)).check(t, name, api.Did{Hart: trapped(h, place, cause), Memory: m, Steps: 1})
		stored := api.Micro{Op: api.MStore + api.SB, B: 11, N: 3}
		code := row(begins(80), stored, begins(85), api.Micro{Op: api.MSet, D: 9, N: 5}, small, after(), begins(4), after())
		want := api.Did{Hart: trapped(set(h, 9, 5), 85, cause), Memory: put(m, 3, 11), Steps: 2, Stores: []api.Range{{From: 3, To: 4}}}
		given{code: code, hart: h, memory: m, steps: 9}.check(t, name+" behind others", want)
	}
}

// TestStore: G2, G3: each store puts its part of B at A + N, which goes round, and tells its bytes; a reservation of the hart's own stays.
func TestStore(t *testing.T) {
	for op, size := range map[int]uint32{api.SB: 1, api.SH: 2, api.SW: 4} {
		for _, p := range []uint32{0, 32, 36, length - 4, length - size, 40 + size} {
			if p%size != 0 {
				continue
			}
			name := "op " + strconv.Itoa(op) + " at " + strconv.Itoa(int(p))
			for _, n := range []uint32{0, 4, 1, ones, ones - 7, 1 << 31} {
				const b = 0xa1b2c3d4
				m := put(data(), int(p), []byte{0xd4, 0xc3, 0xb2, 0xa1}[:size]...)
				for _, h := range []api.Hart{fresh(p-n, b), held(fresh(p-n, b), p)} {
					want := api.Did{Hart: at(h, place+4), Memory: m, Steps: 1, Stores: []api.Range{{From: p, To: p + size}}}
					one(h, data(), api.Micro{Op: api.MStore + op, A: 5, B: 6, N: n}).check(t, name, want)
					above := row(api.Micro{Op: api.MSet, D: 34, N: p - n}, api.Micro{Op: api.MSet, D: 32, N: b}, api.Micro{Op: api.MStore + op, A: 34, B: 32, N: n})
					one(h, data(), above...).check(t, name+", above 31", want)
				}
			}
		}
	}
	h := fresh(32, 2)
	want := api.Did{Hart: at(h, place+4), Memory: lay(data(), 32, 0), Steps: 1, Stores: []api.Range{{From: 32, To: 36}}}
	one(h, data(), api.Micro{Op: api.MStore + api.SW, A: 5}).check(t, "B is register 0", want)
	want = api.Did{Hart: at(h, place+4), Memory: lay(data(), 32, 32), Steps: 1, Stores: []api.Range{{From: 32, To: 36}}}
	one(h, data(), api.Micro{Op: api.MStore + api.SW, A: 5, B: 5}).check(t, "B is A", want)
}

// TestStoreTraps: G2: a store where nothing is traps with CauseStore, and stores nothing.
func TestStoreTraps(t *testing.T) {
	for op, places := range map[int][]uint32{
		api.SB: {length, length + 1, ones, 1 << 31},
		api.SH: {33, length - 1, length, ones - 1},
		api.SW: {33, 34, 35, length - 2, length, ones - 3, 1 << 31},
	} {
		for _, p := range places {
			for _, n := range []uint32{0, 8, ones} {
				h := held(fresh(p-n, 2), 32)
				checkTrap(t, "op "+strconv.Itoa(op)+" at "+strconv.Itoa(int(p)), h, data(), api.CauseStore, api.Micro{Op: api.MStore + op, A: 5, B: 6, N: n}, 0)
			}
		}
	}
}
