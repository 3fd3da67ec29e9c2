package hart_test

import (
	"slices"
	"strconv"
	"testing"

	"ferrybridge/api"
	"ferrybridge/hart"
)

// instruction is op with x5, x6 and rd where its form has them.
func instruction(op, rd int, imm int32) api.Ins {
	i := api.Ins{Op: op, Rd: rd, Rs1: 5, Rs2: 6, Imm: imm}
	switch op {
	case api.LUI, api.AUIPC, api.JAL:
		i.Rs1, i.Rs2 = 0, 0
	case api.JALR, api.LB, api.LH, api.LW, api.LBU, api.LHU, api.LRW, api.FENCE,
		api.ADDI, api.SLTI, api.SLTIU, api.XORI, api.ORI, api.ANDI, api.SLLI, api.SRLI, api.SRAI:
		i.Rs2 = 0
	case api.BEQ, api.BNE, api.BLT, api.BGE, api.BLTU, api.BGEU, api.SB, api.SH, api.SW:
		i.Rd = 0
	case api.ECALL, api.EBREAK:
		i.Rd, i.Rs1, i.Rs2 = 0, 0, 0
	}
	return i
}

// checkRd does an instruction that makes Rd w and goes on at pc, with each kind of register as Rd: another one, those that are read, the last one, and register 0.
func checkRd(t *testing.T, name string, op int, imm int32, a, b, w, pc uint32) {
	t.Helper()
	for _, rd := range []int{7, 5, 6, 31, 0} {
		for _, h := range []api.Hart{runner(a, b), held(runner(a, b), 32)} {
			want := h
			want.PC = pc
			if rd != 0 {
				want.Regs[rd] = w
			}
			m := lay(data(), place, encoded(t, instruction(op, rd, imm)))
			check(t, name+", Rd "+strconv.Itoa(rd), h, m, want, m)
		}
	}
}

// TestNumbers: D2: LUI, AUIPC, and what is reckoned with Imm.
func TestNumbers(t *testing.T) {
	for _, c := range []struct {
		name    string
		op      int
		imm     int32
		a, want uint32
	}{
		{"LUI", api.LUI, 0x12345000, 0, 0x12345000},
		{"LUI below 0", api.LUI, -4096, 0, 0xfffff000},
		{"LUI of 0", api.LUI, 0, 0, 0},
		{"AUIPC", api.AUIPC, 0x12345000, 0, 0x12345010},
		{"AUIPC goes round", api.AUIPC, -4096, 0, 0xfffff010},
		{"AUIPC of 0", api.AUIPC, 0, 0, 16},
		{"ADDI", api.ADDI, 5, 37, 42},
		{"ADDI goes round", api.ADDI, 5, ones - 1, 3},
		{"ADDI, least Imm", api.ADDI, -2048, 0, 0xfffff800},
		{"SLTI, less by sign", api.SLTI, 0, ones, 1},
		{"SLTI, greater", api.SLTI, -1, 5, 0},
		{"SLTI, the same", api.SLTI, -1, ones, 0},
		{"SLTIU, Imm is high", api.SLTIU, -1, 5, 1},
		{"SLTIU, greater", api.SLTIU, 0, ones, 0},
		{"SLTIU, the same", api.SLTIU, 7, 7, 0},
		{"XORI", api.XORI, -1, 0x0f0f0f0f, 0xf0f0f0f0},
		{"XORI, not below 0", api.XORI, 12, 10, 6},
		{"ORI", api.ORI, -2048, 0x100, 0xfffff900},
		{"ORI, not below 0", api.ORI, 12, 10, 14},
		{"ANDI", api.ANDI, -16, ones, 0xfffffff0},
		{"ANDI, not below 0", api.ANDI, 0x7f0, 0xff, 0xf0},
		{"SLLI", api.SLLI, 3, 0x80000007, 0x38},
		{"SLLI by 31", api.SLLI, 31, 0x80000007, 0x80000000},
		{"SLLI by 0", api.SLLI, 0, 0x80000007, 0x80000007},
		{"SRLI", api.SRLI, 3, 0x80000007, 0x10000000},
		{"SRLI by 31", api.SRLI, 31, 0x80000007, 1},
		{"SRAI", api.SRAI, 3, 0x80000007, 0xf0000000},
		{"SRAI by 31", api.SRAI, 31, 0x80000007, ones},
		{"SRAI of a low word", api.SRAI, 3, 56, 7},
	} {
		checkRd(t, c.name, c.op, c.imm, c.a, 0x55555555, c.want, place+4)
	}
}

// TestReckoned: D2: ADD to REMU, of two pairs that tell each operation from each other.
func TestReckoned(t *testing.T) {
	for op, want := range map[int][2]uint32{
		api.ADD: {0x8000000a, 5}, api.SUB: {0x80000004, 9}, api.SLL: {0x38, 0xc0000000},
		api.SLT: {1, 0}, api.SLTU: {0, 1}, api.XOR: {0x80000004, 0xfffffff9},
		api.SRL: {0x10000000, 0}, api.SRA: {0xf0000000, 0}, api.OR: {0x80000007, ones}, api.AND: {3, 6},
		api.MUL: {0x80000015, 0xfffffff2}, api.MULH: {0xfffffffe, ones}, api.MULHSU: {0xfffffffe, 6}, api.MULHU: {1, 6},
		api.DIV: {0xd5555558, 0xfffffffd}, api.DIVU: {0x2aaaaaad, 0}, api.REM: {ones, 1}, api.REMU: {0, 7},
	} {
		name := "op " + strconv.Itoa(op)
		checkRd(t, name, op, 0, 0x80000007, 3, want[0], place+4)
		checkRd(t, name, op, 0, 7, 0xfffffffe, want[1], place+4)
	}
	checkRd(t, "DIV by 0", api.DIV, 0, 9, 0, ones, place+4)
	checkRd(t, "REM by 0", api.REM, 0, 9, 0, 9, place+4)
	checkRd(t, "DIV of the least by -1", api.DIV, 0, 1<<31, ones, 1<<31, place+4)
	checkRd(t, "REM of the least by -1", api.REM, 0, 1<<31, ones, 0, place+4)
}

// TestJumps: D2: JAL and JALR to near, odd and far places, and around 2^32; no place is refused by the jump itself.
func TestJumps(t *testing.T) {
	for _, c := range []struct {
		name  string
		op    int
		imm   int32
		a, pc uint32
	}{
		{"JAL", api.JAL, 8, 0, 24},
		{"JAL to itself", api.JAL, 0, 0, 16},
		{"JAL to 0", api.JAL, -16, 0, 0},
		{"JAL below 0", api.JAL, -18, 0, 0xfffffffe},
		{"JAL to the middle of a word", api.JAL, 2, 0, 18},
		{"JAL, greatest", api.JAL, 1<<20 - 2, 0, 0x10000e},
		{"JAL, least", api.JAL, -1 << 20, 0, 0xfff00010},
		{"JALR", api.JALR, 4, 100, 104},
		{"JALR, odd place", api.JALR, 0, 101, 100},
		{"JALR, odd Imm", api.JALR, 1, 100, 100},
		{"JALR, both odd", api.JALR, 1, 101, 102},
		{"JALR to 2", api.JALR, 3, 0, 2},
		{"JALR goes round", api.JALR, 1, ones, 0},
		{"JALR goes round and is odd", api.JALR, 2047, 0xfffff900, 0xfe},
		{"JALR to the last place", api.JALR, 0, ones, 0xfffffffe},
		{"JALR below 0", api.JALR, -1, 0, 0xfffffffe},
		{"JALR, least Imm", api.JALR, -2048, 0, 0xfffff800},
		{"JALR, far", api.JALR, 0, 1 << 31, 1 << 31},
	} {
		checkRd(t, c.name, c.op, c.imm, c.a, 0x55555555, place+4, c.pc)
	}
}

// TestLandings: D2: a hart that jumped to where no word is traps with its next step.
func TestLandings(t *testing.T) {
	m := lay(data(), place, encoded(t, instruction(api.JALR, 0, 0)))
	for _, at := range []uint32{2, 18, length - 2, length, length + 2, 1 << 31, 0xfffffffc, 0xfffffffe} {
		h, next, _, ok := hart.Step(runner(at, 0), m)
		if !ok || h.PC != at || h.State != api.Runs {
			t.Errorf("JALR to %d: %v, %v", at, h, ok)
		}
		check(t, "landed at "+strconv.Itoa(int(at)), h, next, trapped(h, api.CauseFetch), m)
	}
}

// TestBranches: D2: each branch that holds and that does not, to near, odd and far places, and around 2^32; nothing but the place changes.
func TestBranches(t *testing.T) {
	for _, c := range []struct {
		a, b uint32
		want [6]bool // BEQ, BNE, BLT, BGE, BLTU, BGEU
	}{
		{7, 7, [6]bool{true, false, false, true, false, true}},
		{1, 2, [6]bool{false, true, true, false, true, false}},
		{2, 1, [6]bool{false, true, false, true, false, true}},
		{ones, 1, [6]bool{false, true, true, false, false, true}},
		{1, ones, [6]bool{false, true, false, true, true, false}},
	} {
		for k, op := range []int{api.BEQ, api.BNE, api.BLT, api.BGE, api.BLTU, api.BGEU} {
			for imm, pc := range map[int32]uint32{
				12: 28, 4: 20, 0: 16, 6: 22, -16: 0, -20: 0xfffffffc, -18: 0xfffffffe, 4094: 4110, -4096: 0xfffff010,
			} {
				h := held(runner(c.a, c.b), 36)
				want := h
				want.PC = place + 4
				if c.want[k] {
					want.PC = pc
				}
				m := lay(data(), place, encoded(t, instruction(op, 0, imm)))
				check(t, "branch "+strconv.Itoa(op)+" by "+strconv.Itoa(int(imm)), h, m, want, m)
			}
		}
	}
}

// TestLoads: D2: each load, ahead of and behind the place in Rs1, around 2^32, and at the end.
func TestLoads(t *testing.T) {
	for _, c := range []struct {
		name    string
		op      int
		imm     int32
		a, want uint32
	}{
		{"LB", api.LB, 0, 32, 0xffffff81},
		{"LB of a low byte", api.LB, 2, 32, 0x73},
		{"LBU", api.LBU, 0, 32, 0x81},
		{"LBU at an odd place", api.LBU, -1, 34, 0x92},
		{"LH", api.LH, 0, 32, 0xffff9281},
		{"LH, upper half", api.LH, 2, 32, 0xffff8473},
		{"LH of a low half", api.LH, 0, 36, 5},
		{"LHU", api.LHU, 0, 32, 0x9281},
		{"LHU, odd and odd", api.LHU, 1, 33, 0x8473},
		{"LW", api.LW, 0, 32, 0x84739281},
		{"LW, Imm below 0", api.LW, -8, 40, 0x84739281},
		{"LW, least Imm", api.LW, -2048, 2080, 0x84739281},
		{"LW, greatest Imm", api.LW, 2047, 0xfffff821, 0x84739281},
		{"LW goes round", api.LW, 36, 0xfffffffc, 0x84739281},
		{"LB goes round", api.LB, 33, ones, 0xffffff81},
		{"LW at the end", api.LW, 0, length - 4, 0x7a6b9c8d},
		{"LH at the end", api.LH, 0, length - 2, 0x7a6b},
		{"LHU at the end", api.LHU, 0, length - 2, 0x7a6b},
		{"LB at the end", api.LB, 0, length - 1, 0x7a},
		{"LBU at the end", api.LBU, 0, length - 1, 0x7a},
	} {
		checkRd(t, c.name, c.op, c.imm, c.a, 0x55555555, c.want, place+4)
	}
}

// TestStores: D2: each store, ahead of and behind the place in Rs1, around 2^32, at the end, and over its own word; a reservation of its own stays.
func TestStores(t *testing.T) {
	const b = 0xa1b2c3d4
	for _, c := range []struct {
		name string
		op   int
		imm  int32
		a    uint32
		at   int
		want []byte
	}{
		{"SB", api.SB, 0, 32, 32, []byte{0xd4}},
		{"SB at an odd place", api.SB, -3, 36, 33, []byte{0xd4}},
		{"SB at the end", api.SB, 0, length - 1, length - 1, []byte{0xd4}},
		{"SB goes round", api.SB, 1, ones, 0, []byte{0xd4}},
		{"SH", api.SH, 2, 32, 34, []byte{0xd4, 0xc3}},
		{"SH at the end", api.SH, -1, length - 1, length - 2, []byte{0xd4, 0xc3}},
		{"SH goes round", api.SH, 34, 0xfffffffe, 32, []byte{0xd4, 0xc3}},
		{"SW", api.SW, 0, 36, 36, []byte{0xd4, 0xc3, 0xb2, 0xa1}},
		{"SW, least Imm", api.SW, -2048, 2084, 36, []byte{0xd4, 0xc3, 0xb2, 0xa1}},
		{"SW, greatest Imm", api.SW, 2047, 0xfffff825, 36, []byte{0xd4, 0xc3, 0xb2, 0xa1}},
		{"SW at the end", api.SW, 0, length - 4, length - 4, []byte{0xd4, 0xc3, 0xb2, 0xa1}},
		{"SW over itself", api.SW, 0, place, place, []byte{0xd4, 0xc3, 0xb2, 0xa1}},
		{"SW of the next word", api.SW, 4, place, place + 4, []byte{0xd4, 0xc3, 0xb2, 0xa1}},
	} {
		for _, h := range []api.Hart{runner(c.a, b), held(runner(c.a, b), 36)} {
			want := h
			want.PC = place + 4
			m := lay(data(), place, encoded(t, instruction(c.op, 0, c.imm)))
			check(t, c.name, h, m, want, slices.Concat(m[:c.at], c.want, m[c.at+len(c.want):]))
		}
	}
}

// TestFence: D2: FENCE does nothing, whatever its fields are.
func TestFence(t *testing.T) {
	for _, imm := range []int32{0, 255, -2048, 2047} {
		for _, rd := range []int{0, 5, 7} {
			h := held(runner(1, 2), 32)
			want := h
			want.PC = place + 4
			m := lay(data(), place, encoded(t, instruction(api.FENCE, rd, imm)))
			check(t, "FENCE", h, m, want, m)
		}
	}
}

// TestCalls: D2: a call of 0 halts, and all else stays, the place among it; of 1 x10 comes out.
func TestCalls(t *testing.T) {
	m := lay(data(), place, 115)
	for _, h := range []api.Hart{runner(1, 2), held(runner(1, 2), 32)} {
		h.Regs[17] = 0
		want := h
		want.State = api.Halted
		check(t, "call of 0", h, m, want, m)
		h.Regs[17] = 1
		for _, w := range []uint32{0, 9, 1 << 31, ones} {
			h.Regs[10] = w
			want := h
			want.PC = place + 4
			check(t, "call of 1", h, m, want, m, w)
		}
	}
	check(t, "the chapter's example", api.Hart{}, []byte{115, 0, 0, 0}, api.Hart{State: api.Halted}, []byte{115, 0, 0, 0})
}

// TestRegisterZero: D2: register 0 is read as 0 and stays so, of each instruction that has Rd.
func TestRegisterZero(t *testing.T) {
	h := runner(0, 0)
	want := h
	want.PC, want.Regs[7] = place+4, 3
	m := lay(data(), place, encoded(t, api.Ins{Op: api.ADDI, Rd: 7, Imm: 3}))
	check(t, "ADDI of register 0", h, m, want, m)
	for op := api.LUI; op <= api.EBREAK; op++ {
		h := held(runner(32, 99), 32)
		h.Regs[17] = 1
		m := lay(data(), place, encoded(t, instruction(op, 0, 0)))
		if got, _, _, ok := hart.Step(h, m); !ok || got.Regs != h.Regs {
			t.Errorf("op %d: %v, %v", op, got, ok)
		}
	}
}
