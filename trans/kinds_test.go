package trans_test

import (
	"strconv"
	"testing"

	"ferrybridge/api"
	"ferrybridge/decode"
)

// with are the answers of one kind of instruction: op with Imm, of a hart whose x5 and x6 are a and b, makes Rd rd.
type with struct {
	op   int
	imm  int32
	a, b uint32
	rd   uint32
}

// reckoned are instructions that make Rd something and go on, written out by hand.
func reckoned() []with {
	const high = 0x80000000
	return []with{
		{api.LUI, -4096, 1, 2, 0xfffff000}, {api.LUI, 4096, 1, 2, 4096}, {api.LUI, 0, 1, 2, 0},
		{api.AUIPC, -4096, 1, 2, 0xfffff010}, {api.AUIPC, 8192, 1, 2, 8192 + place}, {api.AUIPC, 0, 1, 2, place},
		{api.LB, 0, 96, 2, 0xffffff81}, {api.LB, -2, 98, 2, 0xffffff81}, {api.LB, 1, 98, 2, 0xffffff84}, {api.LBU, 1, 95, 2, 0x81},
		{api.LH, 2, 96, 2, 0xffff8473}, {api.LHU, 2, 96, 2, 0x8473}, {api.LW, 0, 96, 2, 0x84739281}, {api.LW, -4, 104, 2, 0x80000005}, {api.LW, -2048, 96 + 2048, 2, 0x84739281}, {api.LW, 100, ones - 3, 2, 0x84739281},
		{api.ADDI, -1, 5, 2, 4}, {api.ADDI, 2047, ones, 2, 2046}, {api.SLTI, -1, ones - 1, 2, 1}, {api.SLTI, -1, 0, 2, 0}, {api.SLTIU, -1, 7, 2, 1}, {api.SLTIU, 3, high, 2, 0},
		{api.XORI, -1, 5, 2, ones - 5}, {api.ORI, 6, 9, 2, 15}, {api.ANDI, 6, 12, 2, 4}, {api.ANDI, -2, ones, 2, ones - 1},
		{api.SLLI, 31, 3, 2, high}, {api.SRLI, 31, high, 2, 1}, {api.SRAI, 31, high, 2, ones}, {api.SRAI, 0, 7, 2, 7},
		{api.ADD, 0, ones, 3, 2}, {api.SUB, 0, 3, 5, ones - 1}, {api.SLL, 0, 3, 33, 6}, {api.SLT, 0, ones, 1, 1}, {api.SLTU, 0, ones, 1, 0}, {api.XOR, 0, 12, 10, 6},
		{api.SRL, 0, high, 4, high >> 4}, {api.SRA, 0, high, 4, 0xf8000000}, {api.OR, 0, 12, 10, 14}, {api.AND, 0, 12, 10, 8},
		{api.MUL, 0, 7, ones, ones - 6}, {api.MULH, 0, high, 2, ones}, {api.MULHSU, 0, ones, ones, ones}, {api.MULHU, 0, ones, ones, ones - 1},
		{api.DIV, 0, ones - 6, 2, ones - 2}, {api.DIV, 0, 7, 0, ones}, {api.DIVU, 0, ones, 2, ones / 2}, {api.REM, 0, ones - 6, 2, ones}, {api.REM, 0, high, ones, 0}, {api.REMU, 0, 17, 5, 2}, {api.REMU, 0, 17, 0, 17},
	}
}

// kind is the instruction op with as many of these registers as its form has, and Imm as it may be.
func kind(op, rd, rs1, rs2 int, imm int32) api.Ins {
	i := api.Ins{Op: op}
	for _, field := range []struct {
		to   *int
		from int
	}{{&i.Rd, rd}, {&i.Rs1, rs1}, {&i.Rs2, rs2}} {
		*field.to = field.from
		if _, e := decode.Encode(i); e != api.OK {
			*field.to = 0
		}
	}
	i.Imm = imm
	if _, e := decode.Encode(i); e != api.OK {
		i.Imm = 0
	}
	return i
}

// TestReckoned: H2 of instructions that make Rd something, with each of several registers as Rd, alone and with another one behind it.
func TestReckoned(t *testing.T) {
	for _, c := range reckoned() {
		for _, rd := range []int{7, 5, 6, 31, 17, 0} {
			i := kind(c.op, rd, 5, 6, c.imm)
			if i.Imm != c.imm {
				t.Fatalf("%v: %v", c, i)
			}
			name := "op " + strconv.Itoa(c.op) + ", Rd " + strconv.Itoa(rd)
			h := held(fresh(c.a, c.b), 96)
			want := at(set(h, rd, c.rd), place+4)
			m := program(t, i)
			given{h, m, 9}.check(t, name, api.Did{Hart: want, Memory: m, Steps: 1})
			m = program(t, i, after())
			given{h, m, 9}.check(t, name+", then another", api.Did{Hart: at(set(want, 8, 88), place+8), Memory: m, Steps: 2})
			given{h, m, 1}.check(t, name+", then no more", api.Did{Hart: want, Memory: m, Steps: 1})
			given{h, m, 0}.check(t, name+", no steps", api.Did{Hart: h, Memory: m})
		}
	}
}

// TestFence: H2: FENCE does nothing, whatever its fields are, and is counted.
func TestFence(t *testing.T) {
	h := held(fresh(1, 2), 3)
	for _, i := range []api.Ins{{Op: api.FENCE}, {Op: api.FENCE, Rd: 5, Rs1: 6, Imm: -1}, {Op: api.FENCE, Rd: 31, Rs1: 5, Imm: 255}} {
		m := program(t, i, i, after())
		given{h, m, 2}.check(t, "FENCE", api.Did{Hart: at(h, place+8), Memory: m, Steps: 2})
		given{h, m, 9}.check(t, "FENCE", api.Did{Hart: at(set(h, 8, 88), place+12), Memory: m, Steps: 3})
		m = program(t, i)
		given{h, m, 9}.check(t, "FENCE alone", api.Did{Hart: at(h, place+4), Memory: m, Steps: 1})
	}
}

// TestStores: H2 of SB, SH and SW outside of the block: the hart goes on within it.
func TestStores(t *testing.T) {
	for _, c := range []struct {
		op       int
		imm      int32
		a        uint32
		from, to uint32
		at96     uint32
	}{
		{api.SB, 0, 96, 96, 97, 0x847392d4}, {api.SB, 3, 96, 99, 100, 0xd4739281}, {api.SB, -1, 98, 97, 98, 0x8473d481},
		{api.SH, 0, 96, 96, 98, 0x8473c3d4}, {api.SH, 2, 96, 98, 100, 0xc3d49281}, {api.SH, 99, ones, 98, 100, 0xc3d49281},
		{api.SW, 0, 96, 96, 100, 0xa1b2c3d4}, {api.SW, -2048, 96 + 2048, 96, 100, 0xa1b2c3d4},
	} {
		h := held(fresh(c.a, 0xa1b2c3d4), 96)
		m := program(t, api.Ins{Op: c.op, Rs1: 5, Rs2: 6, Imm: c.imm}, after())
		want := api.Did{Hart: at(set(h, 8, 88), place+8), Memory: lay(m, 96, c.at96), Steps: 2, Stores: []api.Range{{From: c.from, To: c.to}}}
		given{h, m, 9}.check(t, "op "+strconv.Itoa(c.op)+", Imm "+strconv.Itoa(int(c.imm)), want)
		m = program(t, api.Ins{Op: c.op, Rs1: 5, Imm: c.imm}, after())
		given{h, m, 9}.alike(t, "register 0 is stored")
	}
}

// TestAtoms: H2 of the atomic instructions: what Rd becomes, what is stored, and what is held, with each of several registers as Rd, and each Imm.
func TestAtoms(t *testing.T) {
	const old, b = 0x84739281, 3
	free := fresh(96, b)
	none, some := []api.Range(nil), []api.Range{{From: 96, To: 100}}
	for _, c := range []struct {
		op       int
		hart     api.Hart
		rd, at96 uint32
		stores   []api.Range
		behind   api.Hart
	}{
		{api.LRW, free, old, old, none, held(free, 96)}, {api.LRW, held(free, 100), old, old, none, held(free, 96)},
		{api.SCW, held(free, 96), 0, b, some, free}, {api.SCW, held(free, 100), 1, old, none, free}, {api.SCW, free, 1, old, none, free},
		{api.AMOSWAP, free, old, b, some, free}, {api.AMOADD, held(free, 96), old, old + b, some, held(free, 96)},
		{api.AMOXOR, free, old, 0x84739282, some, free}, {api.AMOAND, free, old, 1, some, free}, {api.AMOOR, free, old, 0x84739283, some, free},
		{api.AMOMIN, free, old, old, some, free}, {api.AMOMAX, free, old, b, some, free}, {api.AMOMINU, free, old, b, some, free}, {api.AMOMAXU, free, old, old, some, free},
	} {
		for _, rd := range []int{7, 5, 6, 31, 0} {
			for imm := range int32(4) {
				m := program(t, kind(c.op, rd, 5, 6, imm), after())
				want := api.Did{Hart: at(set(set(c.behind, rd, c.rd), 8, 88), place+8), Memory: lay(m, 96, c.at96), Steps: 2, Stores: c.stores}
				given{c.hart, m, 9}.check(t, "op "+strconv.Itoa(c.op)+", Rd "+strconv.Itoa(rd), want)
			}
		}
	}
}

// TestJumps: H2 of JAL and JALR: Rd and PC, also where Rd is the register that says where; in the first place and behind others.
func TestJumps(t *testing.T) {
	for _, c := range []struct {
		ins api.Ins
		a   uint32
		pc  uint32 // of one that stands at place
	}{
		{api.Ins{Op: api.JAL, Imm: 4}, 0, place + 4}, {api.Ins{Op: api.JAL, Imm: 0}, 0, place}, {api.Ins{Op: api.JAL, Imm: -16}, 0, 0}, {api.Ins{Op: api.JAL, Imm: -20}, 0, ones - 3}, {api.Ins{Op: api.JAL, Imm: 1048574}, 0, 1048574 + place},
		{api.Ins{Op: api.JALR, Rs1: 5}, 96, 96}, {api.Ins{Op: api.JALR, Rs1: 5, Imm: 1}, 96, 96}, {api.Ins{Op: api.JALR, Rs1: 5, Imm: 1}, 97, 98}, {api.Ins{Op: api.JALR, Rs1: 5, Imm: -1}, 0, ones - 1}, {api.Ins{Op: api.JALR, Rs1: 5, Imm: 4}, ones - 3, 0},
		{api.Ins{Op: api.JALR, Imm: 33}, 7, 32}, {api.Ins{Op: api.JALR, Imm: -3}, 7, ones - 3}, {api.Ins{Op: api.JALR, Rs1: 5}, place, place}, {api.Ins{Op: api.JALR, Rs1: 5}, place + 4, place + 4},
	} {
		for _, rd := range []int{1, 5, 31, 0} {
			i := c.ins
			i.Rd = rd
			name := "op " + strconv.Itoa(i.Op) + ", Rd " + strconv.Itoa(rd)
			h := held(fresh(c.a, 2), 4)
			m := program(t, i, after())
			given{h, m, 9}.check(t, name, api.Did{Hart: at(set(h, rd, place+4), c.pc), Memory: m, Steps: 1})
			m = program(t, after(), after(), i, after())
			pc := c.pc
			if i.Op == api.JAL {
				pc += 8
			}
			want := at(set(set(h, 8, 88), rd, place+12), pc)
			given{h, m, 9}.check(t, name+", behind others", api.Did{Hart: want, Memory: m, Steps: 3})
			given{h, m, 2}.check(t, name+", not reached", api.Did{Hart: at(set(h, 8, 88), place+8), Memory: m, Steps: 2})
		}
	}
}

// TestRegisters: H2 of each instruction with registers that are the same and register 0, among Rd, Rs1, Rs2: all that three registers can do, on numbers that are places, and on others.
func TestRegisters(t *testing.T) {
	done := map[api.Ins]bool{}
	for op := api.LUI; op <= api.EBREAK; op++ {
		for k := range 64 {
			for _, imm := range []int32{0, 4, -4, 3, -1, 4096, 1 << 20} {
				i := kind(op, k%4, k/4%4, k/16, imm)
				if done[i] {
					continue
				}
				done[i] = true
				for _, x := range [][3]uint32{{96, 100, 104}, {97, 3, ones}, {1 << 31, ones, 1}, {place, place + 4, 96}, {0, 0, 0}} {
					h := fresh(5, 6)
					h.Regs[1], h.Regs[2], h.Regs[3], h.Regs[17] = x[0], x[1], x[2], 1
					m := program(t, i, after())
					given{h, m, 1}.alike(t, "one step")
					given{h, m, 2}.alike(t, "two steps")
					given{held(h, x[0]), m, 2}.alike(t, "held")
				}
			}
		}
	}
}
