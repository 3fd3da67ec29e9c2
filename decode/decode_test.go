package decode_test

import (
	"math"
	"testing"

	"ferrybridge/api"
	"ferrybridge/decode"
)

// known has each instruction once, its word written out by its parts.
var known = []struct {
	word uint32
	ins  api.Ins
}{
	{0b10000000000000000001_00101_0110111, api.Ins{Op: api.LUI, Rd: 5, Imm: -1<<31 + 1<<12}},
	{0b00000000000000000011_11111_0010111, api.Ins{Op: api.AUIPC, Rd: 31, Imm: 3 << 12}},
	{0b0_0000000010_1_00000011_00001_1101111, api.Ins{Op: api.JAL, Rd: 1, Imm: 3<<12 + 1<<11 + 4}},
	{0b111111111110_00010_000_00001_1100111, api.Ins{Op: api.JALR, Rd: 1, Rs1: 2, Imm: -2}},
	{0b0_000001_00010_00001_000_0010_0_1100011, api.Ins{Op: api.BEQ, Rs1: 1, Rs2: 2, Imm: 36}},
	{0b0_000000_00010_00001_001_0000_1_1100011, api.Ins{Op: api.BNE, Rs1: 1, Rs2: 2, Imm: 2048}},
	{0b1_000000_00010_00001_100_0000_0_1100011, api.Ins{Op: api.BLT, Rs1: 1, Rs2: 2, Imm: -4096}},
	{0b1_111111_00010_00001_101_1111_1_1100011, api.Ins{Op: api.BGE, Rs1: 1, Rs2: 2, Imm: -2}},
	{0b0_111111_00010_00001_110_1111_1_1100011, api.Ins{Op: api.BLTU, Rs1: 1, Rs2: 2, Imm: 4094}},
	{0b0_000000_11111_00000_111_0001_0_1100011, api.Ins{Op: api.BGEU, Rs2: 31, Imm: 2}},
	{0b000000000011_00010_000_00001_0000011, api.Ins{Op: api.LB, Rd: 1, Rs1: 2, Imm: 3}},
	{0b100000000000_00010_001_00001_0000011, api.Ins{Op: api.LH, Rd: 1, Rs1: 2, Imm: -2048}},
	{0b011111111111_00010_010_00001_0000011, api.Ins{Op: api.LW, Rd: 1, Rs1: 2, Imm: 2047}},
	{0b111111111111_00010_100_00001_0000011, api.Ins{Op: api.LBU, Rd: 1, Rs1: 2, Imm: -1}},
	{0b000000000000_11111_101_11111_0000011, api.Ins{Op: api.LHU, Rd: 31, Rs1: 31}},
	{0b0000001_00011_00010_000_00101_0100011, api.Ins{Op: api.SB, Rs1: 2, Rs2: 3, Imm: 37}},
	{0b1000000_00011_00010_001_00000_0100011, api.Ins{Op: api.SH, Rs1: 2, Rs2: 3, Imm: -2048}},
	{0b1111111_00011_00010_010_11111_0100011, api.Ins{Op: api.SW, Rs1: 2, Rs2: 3, Imm: -1}},
	{0b000000000101_00010_000_00001_0010011, api.Ins{Op: api.ADDI, Rd: 1, Rs1: 2, Imm: 5}},
	{0b000000000101_00010_010_00001_0010011, api.Ins{Op: api.SLTI, Rd: 1, Rs1: 2, Imm: 5}},
	{0b111111111111_00010_011_00001_0010011, api.Ins{Op: api.SLTIU, Rd: 1, Rs1: 2, Imm: -1}},
	{0b000000000101_00010_100_00001_0010011, api.Ins{Op: api.XORI, Rd: 1, Rs1: 2, Imm: 5}},
	{0b000000000101_00010_110_00001_0010011, api.Ins{Op: api.ORI, Rd: 1, Rs1: 2, Imm: 5}},
	{0b000000000101_00010_111_00001_0010011, api.Ins{Op: api.ANDI, Rd: 1, Rs1: 2, Imm: 5}},
	{0b0000000_11111_00010_001_00001_0010011, api.Ins{Op: api.SLLI, Rd: 1, Rs1: 2, Imm: 31}},
	{0b0000000_00011_00010_101_00001_0010011, api.Ins{Op: api.SRLI, Rd: 1, Rs1: 2, Imm: 3}},
	{0b0100000_10000_00010_101_00001_0010011, api.Ins{Op: api.SRAI, Rd: 1, Rs1: 2, Imm: 16}},
	{0b0000000_00011_00010_000_00001_0110011, api.Ins{Op: api.ADD, Rd: 1, Rs1: 2, Rs2: 3}},
	{0b0100000_00011_00010_000_00001_0110011, api.Ins{Op: api.SUB, Rd: 1, Rs1: 2, Rs2: 3}},
	{0b0000000_00011_00010_001_00001_0110011, api.Ins{Op: api.SLL, Rd: 1, Rs1: 2, Rs2: 3}},
	{0b0000000_00011_00010_010_00001_0110011, api.Ins{Op: api.SLT, Rd: 1, Rs1: 2, Rs2: 3}},
	{0b0000000_00011_00010_011_00001_0110011, api.Ins{Op: api.SLTU, Rd: 1, Rs1: 2, Rs2: 3}},
	{0b0000000_00011_00010_100_00001_0110011, api.Ins{Op: api.XOR, Rd: 1, Rs1: 2, Rs2: 3}},
	{0b0000000_00011_00010_101_00001_0110011, api.Ins{Op: api.SRL, Rd: 1, Rs1: 2, Rs2: 3}},
	{0b0100000_00011_00010_101_00001_0110011, api.Ins{Op: api.SRA, Rd: 1, Rs1: 2, Rs2: 3}},
	{0b0000000_00011_00010_110_00001_0110011, api.Ins{Op: api.OR, Rd: 1, Rs1: 2, Rs2: 3}},
	{0b0000000_00011_00010_111_00001_0110011, api.Ins{Op: api.AND, Rd: 1, Rs1: 2, Rs2: 3}},
	{0b0000001_00011_00010_000_00001_0110011, api.Ins{Op: api.MUL, Rd: 1, Rs1: 2, Rs2: 3}},
	{0b0000001_00011_00010_001_00001_0110011, api.Ins{Op: api.MULH, Rd: 1, Rs1: 2, Rs2: 3}},
	{0b0000001_00011_00010_010_00001_0110011, api.Ins{Op: api.MULHSU, Rd: 1, Rs1: 2, Rs2: 3}},
	{0b0000001_00011_00010_011_00001_0110011, api.Ins{Op: api.MULHU, Rd: 1, Rs1: 2, Rs2: 3}},
	{0b0000001_00011_00010_100_00001_0110011, api.Ins{Op: api.DIV, Rd: 1, Rs1: 2, Rs2: 3}},
	{0b0000001_00011_00010_101_00001_0110011, api.Ins{Op: api.DIVU, Rd: 1, Rs1: 2, Rs2: 3}},
	{0b0000001_00011_00010_110_00001_0110011, api.Ins{Op: api.REM, Rd: 1, Rs1: 2, Rs2: 3}},
	{0b0000001_00011_00010_111_00001_0110011, api.Ins{Op: api.REMU, Rd: 1, Rs1: 2, Rs2: 3}},
	{0b00010_10_00000_00010_010_00001_0101111, api.Ins{Op: api.LRW, Rd: 1, Rs1: 2, Imm: 2}},
	{0b00011_01_00011_00010_010_00001_0101111, api.Ins{Op: api.SCW, Rd: 1, Rs1: 2, Rs2: 3, Imm: 1}},
	{0b00001_00_00011_00010_010_00001_0101111, api.Ins{Op: api.AMOSWAP, Rd: 1, Rs1: 2, Rs2: 3}},
	{0b00000_11_00011_00010_010_00001_0101111, api.Ins{Op: api.AMOADD, Rd: 1, Rs1: 2, Rs2: 3, Imm: 3}},
	{0b00100_00_00011_00010_010_00001_0101111, api.Ins{Op: api.AMOXOR, Rd: 1, Rs1: 2, Rs2: 3}},
	{0b01100_00_00011_00010_010_00001_0101111, api.Ins{Op: api.AMOAND, Rd: 1, Rs1: 2, Rs2: 3}},
	{0b01000_00_00011_00010_010_00001_0101111, api.Ins{Op: api.AMOOR, Rd: 1, Rs1: 2, Rs2: 3}},
	{0b10000_00_00011_00010_010_00001_0101111, api.Ins{Op: api.AMOMIN, Rd: 1, Rs1: 2, Rs2: 3}},
	{0b10100_00_00011_00010_010_00001_0101111, api.Ins{Op: api.AMOMAX, Rd: 1, Rs1: 2, Rs2: 3}},
	{0b11000_00_00011_00010_010_00001_0101111, api.Ins{Op: api.AMOMINU, Rd: 1, Rs1: 2, Rs2: 3}},
	{0b11100_00_00011_00010_010_00001_0101111, api.Ins{Op: api.AMOMAXU, Rd: 1, Rs1: 2, Rs2: 3}},
	{0b111111111111_00010_000_00001_0001111, api.Ins{Op: api.FENCE, Rd: 1, Rs1: 2, Imm: -1}},
	{0b000000000000_00000_000_00000_1110011, api.Ins{Op: api.ECALL}},
	{0b000000000001_00000_000_00000_1110011, api.Ins{Op: api.EBREAK}},
	{19, api.Ins{Op: api.ADDI}},
}

func TestKnownWords(t *testing.T) {
	seen := map[int]bool{}
	for _, k := range known {
		seen[k.ins.Op] = true
		if i, ok := decode.Decode(k.word); !ok || i != k.ins {
			t.Errorf("Decode(%032b): %v %v, want %v", k.word, i, ok, k.ins)
		}
		if w, e := decode.Encode(k.ins); e != api.OK || w != k.word {
			t.Errorf("Encode(%v): %032b %v, want %032b", k.ins, w, e, k.word)
		}
	}
	for op := api.LUI; op <= api.EBREAK; op++ {
		if !seen[op] {
			t.Errorf("no word of op %d is known", op)
		}
	}
}

// TestNumbersOfAllPlaces goes through each number that may tell an instruction, at each of its places, with fields that are empty, full, and mixed.
func TestNumbersOfAllPlaces(t *testing.T) {
	found := map[int]bool{}
	for told := range uint32(1 << 17) {
		w := told&127 | told>>7&7<<12 | told>>10<<25
		for _, fields := range []uint32{0, 0x01ff8f80, 0x00100000, 0x00008080, 0x01000800, 0x00f80500} {
			found[check(t, w|fields).Op] = true
		}
		if t.Failed() {
			return
		}
	}
	if len(found) != api.EBREAK+1 {
		t.Errorf("%d ops met (none is one of them)", len(found))
	}
}

// TestFieldsOfAllForms goes through each field of each instruction, its other ones empty or full; and each single bit of Imm.
func TestFieldsOfAllForms(t *testing.T) {
	for _, r := range rows {
		for _, base := range []uint32{0, math.MaxUint32} {
			for n := range uint32(32) {
				for _, place := range []int{7, 15, 20} {
					check(t, r.word(base&^(31<<place)|n<<place))
				}
			}
			for n := range uint32(1 << 12) {
				check(t, r.word(base&^(4095<<20)|n<<20))
			}
			for bit := range 32 {
				check(t, r.word(base^1<<bit))
			}
		}
	}
}

func TestMixedWords(t *testing.T) {
	w := uint32(1)
	for range 20000 {
		w = w*1664525 + 1013904223
		check(t, w)
		for _, r := range rows {
			check(t, r.word(w))
		}
	}
}

func TestWordsThatAreNone(t *testing.T) {
	for _, w := range []uint32{
		0, math.MaxUint32,
		18,                                       // two lowest bits that are not 3
		0b001_00000_1100111,                      // JALR leaves all but 0 out
		0b010_00000_1100011,                      // branches leave 2 and 3 out
		0b011_00000_1100011,                      //
		0b011_00000_0000011,                      // loads leave 3, 6 and 7 out
		0b110_00000_0000011,                      //
		0b111_00000_0000011,                      //
		0b011_00000_0100011,                      // stores leave 3 and more out
		0b0000001_00000_00000_001_00000_0010011,  // SLLI with 1
		0b0100000_00000_00000_001_00000_0010011,  // SLLI with 32
		0b0000001_00000_00000_101_00000_0010011,  // SRLI with 1
		0b0100001_00000_00000_101_00000_0010011,  // SRAI with 33
		0b0100000_00000_00000_001_00000_0110011,  // SLL with 32
		0b0100000_00000_00000_111_00000_0110011,  // AND with 32
		0b0000010_00000_00000_000_00000_0110011,  // ADD with 2
		0b0100001_00000_00000_000_00000_0110011,  // 1 and 32 at once
		0b00010_00_00001_00000_010_00000_0101111, // LRW with Rs2
		0b00010_11_11111_00000_010_00000_0101111, //
		0b00011_00_00000_00000_011_00000_0101111, // SCW with 3
		0b00101_00_00000_00000_010_00000_0101111, // 5 is no atomic instruction
		0b11111_00_00000_00000_010_00000_0101111, //
		0b001_00000_0001111,                      // FENCE leaves all but 0 out
		0b000000000010_00000_000_00000_1110011,   // behind EBREAK
		0b000000000000_00000_000_00001_1110011,   // ECALL with Rd
		0b000000000001_00001_000_00000_1110011,   // EBREAK with Rs1
		0b000000000000_00000_001_00000_1110011,   //
	} {
		if i, ok := decode.Decode(w); ok || i != (api.Ins{}) {
			t.Errorf("Decode(%032b): %v %v", w, i, ok)
		}
	}
}

func TestInstructionsThatAreNone(t *testing.T) {
	for _, i := range []api.Ins{
		{},
		{Op: -1}, {Op: api.EBREAK + 1}, {Op: math.MaxInt}, {Op: math.MinInt}, {Op: 1<<32 + api.ADD},
		{Op: api.ADD, Rd: 32}, {Op: api.ADD, Rs1: 32}, {Op: api.ADD, Rs2: 32},
		{Op: api.ADD, Rd: -1}, {Op: api.ADD, Rs1: -1}, {Op: api.ADD, Rs2: -1},
		{Op: api.ADD, Rd: 1 << 32}, {Op: api.ADD, Rs1: 1 << 32}, {Op: api.ADD, Rs2: math.MinInt},
		{Op: api.ADD, Imm: 1}, {Op: api.ADD, Imm: -1},
		{Op: api.LUI, Imm: 1}, {Op: api.LUI, Imm: 4095}, {Op: api.AUIPC, Imm: -1},
		{Op: api.LUI, Rs1: 1}, {Op: api.LUI, Rs2: 1},
		{Op: api.JAL, Imm: 1}, {Op: api.JAL, Imm: 1 << 20}, {Op: api.JAL, Imm: -1<<20 - 2}, {Op: api.JAL, Rs2: 1},
		{Op: api.JALR, Imm: 2048}, {Op: api.JALR, Imm: -2049}, {Op: api.JALR, Rs2: 1},
		{Op: api.BEQ, Imm: 3}, {Op: api.BEQ, Imm: 4096}, {Op: api.BEQ, Imm: -4098}, {Op: api.BEQ, Rd: 1},
		{Op: api.SW, Imm: 2048}, {Op: api.SW, Imm: -2049}, {Op: api.SW, Rd: 1},
		{Op: api.ADDI, Imm: math.MaxInt32}, {Op: api.ADDI, Imm: math.MinInt32}, {Op: api.ADDI, Rs2: 1},
		{Op: api.SLLI, Imm: 32}, {Op: api.SLLI, Imm: -1}, {Op: api.SRAI, Imm: 1024}, {Op: api.SRLI, Imm: 1024}, {Op: api.SRAI, Rs2: 1},
		{Op: api.LRW, Rs2: 1}, {Op: api.LRW, Imm: 4}, {Op: api.AMOADD, Imm: 4}, {Op: api.AMOADD, Imm: -1},
		{Op: api.FENCE, Rs2: 1}, {Op: api.FENCE, Imm: 2048},
		{Op: api.ECALL, Rd: 1}, {Op: api.ECALL, Rs1: 1}, {Op: api.ECALL, Rs2: 1}, {Op: api.ECALL, Imm: 1},
		{Op: api.EBREAK, Imm: 1}, {Op: api.EBREAK, Rd: 1},
	} {
		if w, e := decode.Encode(i); w != 0 || e != api.ErrForm {
			t.Errorf("Encode(%v): %032b %v", i, w, e)
		}
	}
}

// TestEncodeAtBounds holds Encode against the bounds of each field, all of them together.
func TestEncodeAtBounds(t *testing.T) {
	regs := []int{math.MinInt, -1, 0, 1, 31, 32, 1 << 32}
	imms := []int32{0}
	for bit := range 32 {
		n := int32(uint32(1) << bit)
		imms = append(imms, n, n-1, -n, -n-1)
	}
	for op := -1; op <= api.EBREAK+2; op++ {
		for at := range len(regs) * len(regs) * len(regs) {
			rd, rs1, rs2 := regs[at%7], regs[at/7%7], regs[at/49]
			for _, imm := range imms {
				checkEncode(t, api.Ins{Op: op, Rd: rd, Rs1: rs1, Rs2: rs2, Imm: imm})
			}
		}
		if t.Failed() {
			return
		}
	}
}
