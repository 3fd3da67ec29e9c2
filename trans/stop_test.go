package trans_test

import (
	"strconv"
	"testing"

	"ferrybridge/api"
)

// counters are so many instructions that each add 1 to x9.
func counters(count int) []api.Ins {
	var row []api.Ins
	for range count {
		row = append(row, api.Ins{Op: api.ADDI, Rd: 9, Rs1: 9, Imm: 1})
	}
	return row
}

// TestSteps: H2: a row of each length, at each number of steps: it stops behind so many, at its end, and behind MaxBlock.
func TestSteps(t *testing.T) {
	for count := 1; count < api.MaxBlock+4; count++ {
		h := set(fresh(1, 2), 9, 0)
		m := program(t, counters(count)...)
		for steps := range api.MaxBlock + 4 {
			done := min(steps, count, api.MaxBlock)
			want := at(set(h, 9, uint32(done)), place+4*uint32(done))
			given{h, m, steps}.check(t, strconv.Itoa(count)+" instructions, "+strconv.Itoa(steps)+" steps", api.Did{Hart: want, Memory: m, Steps: done})
		}
		done := min(count, api.MaxBlock)
		want := at(set(h, 9, uint32(done)), place+4*uint32(done))
		given{h, m, api.MaxSteps}.check(t, "MaxSteps", api.Did{Hart: want, Memory: m, Steps: done})
	}
}

// TestPlaces: H2: a block at the beginning of a memory, at its end, and at the end of the greatest one.
func TestPlaces(t *testing.T) {
	row := []api.Ins{{Op: api.AUIPC, Rd: 7}, {Op: api.JAL, Rd: 6, Imm: -8}}
	for _, size := range []int{8, 64, api.MaxMemory - 4, api.MaxMemory} {
		for _, pc := range []int{0, size - 8} {
			m := laid(t, make([]byte, size), pc, row...)
			p := uint32(pc)
			h := at(fresh(1, 2), p)
			given{h, m, 9}.check(t, "both", api.Did{Hart: at(set(set(h, 7, p), 6, p+8), p-4), Memory: m, Steps: 2})
			given{h, m, 1}.check(t, "one", api.Did{Hart: at(set(h, 7, p), p+4), Memory: m, Steps: 1})
			h.PC = p + 4
			given{h, m, 9}.check(t, "the second one", api.Did{Hart: at(set(h, 6, p+8), p-4), Memory: m, Steps: 1})
		}
		m := laid(t, make([]byte, size), size-4, counters(1)...)
		h := at(set(fresh(1, 2), 9, 0), uint32(size-4))
		given{h, m, 9}.check(t, "the last word", api.Did{Hart: at(set(h, 9, 1), uint32(size)), Memory: m, Steps: 1})
	}
}

// TestBranches: H2: each branch, taken or not, back to its block, to itself, to the next word and away; what stands behind it is not done.
func TestBranches(t *testing.T) {
	for _, c := range []struct {
		op    int
		a, b  uint32
		takes bool
	}{
		{api.BEQ, 7, 7, true}, {api.BEQ, 7, 8, false}, {api.BNE, 7, 8, true}, {api.BNE, 7, 7, false},
		{api.BLT, ones, 1, true}, {api.BLT, 1, ones, false}, {api.BLT, 1, 1, false}, {api.BGE, 1, ones, true}, {api.BGE, 1, 1, true}, {api.BGE, ones, 1, false},
		{api.BLTU, 1, ones, true}, {api.BLTU, ones, 1, false}, {api.BLTU, 1, 1, false}, {api.BGEU, ones, 1, true}, {api.BGEU, 1, 1, true}, {api.BGEU, 1, ones, false},
	} {
		for _, imm := range []int32{0, 4, 8, -4, -8, -24, 2, -2, 4094, -4096} {
			h := set(fresh(c.a, c.b), 9, 0)
			m := program(t, append(counters(2), api.Ins{Op: c.op, Rs1: 5, Rs2: 6, Imm: imm}, after())...)
			pc := uint32(place + 12)
			if c.takes {
				pc = place + 8 + uint32(imm)
			}
			want := api.Did{Hart: at(set(h, 9, 2), pc), Memory: m, Steps: 3}
			for _, steps := range []int{3, 4, api.MaxSteps} {
				given{h, m, steps}.check(t, "op "+strconv.Itoa(c.op)+", Imm "+strconv.Itoa(int(imm)), want)
			}
			want.Hart, want.Steps = at(want.Hart, place+8), 2
			given{h, m, 2}.check(t, "not reached", want)
		}
	}
}

// traps are instructions that trap, of a hart whose x5 is the place that is meant, with their cause.
func traps() map[string]struct {
	ins   api.Ins
	a     uint32
	cause int
} {
	type trap = struct {
		ins   api.Ins
		a     uint32
		cause int
	}
	return map[string]trap{
		"LB behind the end":     {api.Ins{Op: api.LB, Rd: 7, Rs1: 5}, length, api.CauseLoad},
		"LBU far away":          {api.Ins{Op: api.LBU, Rd: 5, Rs1: 5}, 1 << 31, api.CauseLoad},
		"LH at an odd place":    {api.Ins{Op: api.LH, Rd: 7, Rs1: 5}, 97, api.CauseLoad},
		"LHU at an odd place":   {api.Ins{Op: api.LHU, Rd: 7, Rs1: 5, Imm: 1}, 96, api.CauseLoad},
		"LW at half a word":     {api.Ins{Op: api.LW, Rd: 7, Rs1: 5}, 98, api.CauseLoad},
		"LW to register 0":      {api.Ins{Op: api.LW, Rs1: 5}, length, api.CauseLoad},
		"LW below 0":            {api.Ins{Op: api.LW, Rd: 5, Rs1: 5, Imm: -4}, 0, api.CauseLoad},
		"SB behind the end":     {api.Ins{Op: api.SB, Rs1: 5, Rs2: 6}, length, api.CauseStore},
		"SH at an odd place":    {api.Ins{Op: api.SH, Rs1: 5, Rs2: 6}, 97, api.CauseStore},
		"SW at half a word":     {api.Ins{Op: api.SW, Rs1: 5, Rs2: 6, Imm: 2}, 96, api.CauseStore},
		"SW askew in the block": {api.Ins{Op: api.SW, Rs1: 5, Rs2: 6, Imm: 2}, place, api.CauseStore},
		"LRW at an odd place":   {api.Ins{Op: api.LRW, Rd: 7, Rs1: 5}, 97, api.CauseLoad},
		"LRW to register 0":     {api.Ins{Op: api.LRW, Rs1: 5}, length, api.CauseLoad},
		"SCW behind the end":    {api.Ins{Op: api.SCW, Rd: 7, Rs1: 5, Rs2: 6}, length, api.CauseStore},
		"AMOSWAP at half":       {api.Ins{Op: api.AMOSWAP, Rd: 5, Rs1: 5, Rs2: 5}, 98, api.CauseStore},
		"AMOMAXU, register 0":   {api.Ins{Op: api.AMOMAXU, Rs1: 5, Rs2: 6}, length, api.CauseStore},
		"ECALL 2":               {api.Ins{Op: api.ECALL}, 96, api.CauseCall},
		"EBREAK":                {api.Ins{Op: api.EBREAK}, 96, api.CauseBreak},
	}
}

// TestTraps: H2: a trap at once and behind others: it is counted, PC is its own place, what was done ahead of it stays, and nothing behind it is done.
func TestTraps(t *testing.T) {
	for name, c := range traps() {
		for ahead := range api.MaxBlock {
			h := set(set(held(fresh(c.a, 77), 96), 9, 0), 17, 2)
			m := program(t, append(counters(ahead), c.ins, after())...)
			pc := place + 4*uint32(ahead)
			before := at(set(h, 9, uint32(ahead)), pc)
			for _, steps := range []int{ahead + 1, ahead + 2, api.MaxSteps} {
				given{h, m, steps}.check(t, name, api.Did{Hart: trapped(before, c.cause), Memory: m, Steps: ahead + 1})
			}
			given{h, m, ahead}.check(t, name+", not reached", api.Did{Hart: before, Memory: m, Steps: ahead})
		}
	}
}

// TestTrapBehindStores: H2: what was stored, and what is held, ahead of a trap stays.
func TestTrapBehindStores(t *testing.T) {
	for name, c := range traps() {
		h := set(set(fresh(c.a, 77), 10, 96), 17, 2)
		m := program(t, api.Ins{Op: api.SB, Rs1: 10, Rs2: 6, Imm: 8}, api.Ins{Op: api.LRW, Rd: 11, Rs1: 10}, c.ins, after())
		want := held(at(set(h, 11, 0x84739281), place+8), 96)
		given{h, m, 9}.check(t, name, api.Did{Hart: trapped(want, c.cause), Memory: lay(m, 104, 77), Steps: 3, Stores: []api.Range{{From: 104, To: 105}}})
	}
}

// TestCalls: H2: ECALL halts where it stands, or lets something come out and stops behind it, for a block ends with it.
func TestCalls(t *testing.T) {
	for ahead := range api.MaxBlock {
		m := program(t, append(counters(ahead), api.Ins{Op: api.ECALL}, after(), api.Ins{Op: api.ECALL})...)
		pc := place + 4*uint32(ahead)
		h := set(set(fresh(1, 2), 9, 0), 10, ones)
		before := set(h, 9, uint32(ahead))
		for _, steps := range []int{ahead + 1, api.MaxSteps} {
			given{set(h, 17, 1), m, steps}.check(t, "1", api.Did{Hart: at(set(before, 17, 1), pc+4), Memory: m, Out: []uint32{ones}, Steps: ahead + 1})
			halted := at(set(before, 17, 0), pc)
			halted.State = api.Halted
			given{set(h, 17, 0), m, steps}.check(t, "0", api.Did{Hart: halted, Memory: m, Steps: ahead + 1})
			given{set(h, 17, ones), m, steps}.check(t, "2^32 - 1", api.Did{Hart: trapped(at(set(before, 17, ones), pc), api.CauseCall), Memory: m, Steps: ahead + 1})
		}
		given{set(h, 17, 0), m, ahead}.check(t, "not reached", api.Did{Hart: at(set(before, 17, 0), pc), Memory: m, Steps: ahead})
	}
}

// storers are the instructions that store at x5, with how many bytes they store in.
func storers() map[int]uint32 {
	all := map[int]uint32{api.SB: 1, api.SH: 2, api.SW: 4}
	for op := api.SCW; op <= api.AMOMAXU; op++ {
		all[op] = 4
	}
	return all
}

// TestStoreInOwn: H2: behind a store in a byte of the block's, also one that is done already, it stops; behind one next to them it does not.
func TestStoreInOwn(t *testing.T) {
	for op, size := range storers() {
		for p := uint32(place - 8); p <= place+24; p += size {
			h := held(fresh(p, 0), p)
			m := program(t, api.Ins{Op: api.FENCE}, kind(op, 0, 5, 6, 0), after(), api.Ins{Op: api.FENCE})
			d := given{h, m, 9}.alike(t, "op "+strconv.Itoa(op)+" at "+strconv.Itoa(int(p)))
			within := p+size > place && p < place+16
			if within && (d.Steps != 2 || d.Hart.PC != place+8 || d.Hart.Regs[8] != h.Regs[8]) || !within && (d.Steps != 4 || d.Hart.PC != place+16 || d.Hart.Regs[8] != 88) {
				t.Errorf("op %d at %d: %v", op, p, d)
			}
			if len(d.Stores) != 1 || d.Stores[0] != (api.Range{From: p, To: p + size}) {
				t.Errorf("op %d at %d: stores %v", op, p, d.Stores)
			}
		}
	}
}

// TestStoreInOwnByHand: H2: stores in the block's own bytes, written out: the next word, the same bytes again, in the last one, in the first one of MaxBlock.
func TestStoreInOwnByHand(t *testing.T) {
	store := api.Ins{Op: api.SW, Rs1: 5, Rs2: 6}
	next := encoded(t, api.Ins{Op: api.EBREAK})
	h := fresh(place+4, next)
	m := program(t, store, after(), after())
	own := []api.Range{{From: place + 4, To: place + 8}}
	given{h, m, 9}.check(t, "the next word", api.Did{Hart: at(h, place+4), Memory: lay(m, place+4, next), Steps: 1, Stores: own})
	given{h, m, 1}.check(t, "the next word, one step", api.Did{Hart: at(h, place+4), Memory: lay(m, place+4, next), Steps: 1, Stores: own})
	h.Regs[6] = encoded(t, after())
	given{h, m, 9}.check(t, "what stood there", api.Did{Hart: at(h, place+4), Memory: m, Steps: 1, Stores: own})
	m = program(t, after(), store)
	h.Regs[6] = 0
	given{h, m, 9}.check(t, "itself, the last one", api.Did{Hart: at(set(h, 8, 88), place+8), Memory: lay(m, place+4, 0), Steps: 2, Stores: own})
	m = program(t, append(append(counters(15), store), counters(3)...)...)
	h = set(fresh(place+64, 0), 9, 0)
	far := []api.Range{{From: place + 64, To: place + 68}}
	given{h, m, 99}.check(t, "behind MaxBlock", api.Did{Hart: at(set(h, 9, 15), place+64), Memory: lay(m, place+64, 0), Steps: 16, Stores: far})
	m = program(t, append([]api.Ins{store}, counters(18)...)...)
	given{h, m, 99}.check(t, "from the first of MaxBlock, behind them", api.Did{Hart: at(set(h, 9, 15), place+64), Memory: lay(m, place+64, 0), Steps: 16, Stores: far})
	h = set(h, 5, place+60)
	far[0] = api.Range{From: place + 60, To: place + 64}
	given{h, m, 99}.check(t, "from the first of MaxBlock, in the last of them", api.Did{Hart: at(h, place+4), Memory: lay(m, place+60, 0), Steps: 1, Stores: far})
}

// TestNoStoreInOwn: H2: what reads the block's bytes, and an SCW there that is not met, does not stop.
func TestNoStoreInOwn(t *testing.T) {
	for _, i := range []api.Ins{{Op: api.LW, Rs1: 5}, {Op: api.LB, Rs1: 5, Imm: 3}, {Op: api.SCW, Rs1: 5, Rs2: 6}} {
		h := fresh(place+4, 2)
		m := program(t, i, after())
		given{h, m, 9}.check(t, "op "+strconv.Itoa(i.Op), api.Did{Hart: at(set(h, 8, 88), place+8), Memory: m, Steps: 2})
	}
	h := fresh(place+4, 2)
	m := program(t, api.Ins{Op: api.LRW, Rd: 7, Rs1: 5}, after())
	given{h, m, 9}.check(t, "LRW", api.Did{Hart: held(at(set(set(h, 7, encoded(t, after())), 8, 88), place+8), place+4), Memory: m, Steps: 2})
}
