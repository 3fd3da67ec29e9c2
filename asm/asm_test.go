package asm_test

import (
	"math"
	"strings"
	"testing"

	"ferrybridge/api"
	"ferrybridge/asm"
	"ferrybridge/decode"
)

// known has each instruction at least once, its text written out by hand.
var known = []struct {
	text string
	ins  api.Ins
}{
	{"lui x5,-524287", api.Ins{Op: api.LUI, Rd: 5, Imm: -1<<31 + 1<<12}},
	{"lui x0,-524288", api.Ins{Op: api.LUI, Imm: -1 << 31}},
	{"lui x31,524287", api.Ins{Op: api.LUI, Rd: 31, Imm: 1<<31 - 1<<12}},
	{"lui x1,-1", api.Ins{Op: api.LUI, Rd: 1, Imm: -4096}},
	{"auipc x31,3", api.Ins{Op: api.AUIPC, Rd: 31, Imm: 3 << 12}},
	{"auipc x0,0", api.Ins{Op: api.AUIPC}},
	{"jal x1,-1048576", api.Ins{Op: api.JAL, Rd: 1, Imm: -1 << 20}},
	{"jal x0,1048574", api.Ins{Op: api.JAL, Imm: 1<<20 - 2}},
	{"jalr x1,x2,-2048", api.Ins{Op: api.JALR, Rd: 1, Rs1: 2, Imm: -2048}},
	{"jalr x0,x0,2047", api.Ins{Op: api.JALR, Imm: 2047}},
	{"beq x1,x2,36", api.Ins{Op: api.BEQ, Rs1: 1, Rs2: 2, Imm: 36}},
	{"bne x30,x31,2048", api.Ins{Op: api.BNE, Rs1: 30, Rs2: 31, Imm: 2048}},
	{"blt x1,x2,-4096", api.Ins{Op: api.BLT, Rs1: 1, Rs2: 2, Imm: -4096}},
	{"bge x1,x2,-2", api.Ins{Op: api.BGE, Rs1: 1, Rs2: 2, Imm: -2}},
	{"bltu x1,x2,4094", api.Ins{Op: api.BLTU, Rs1: 1, Rs2: 2, Imm: 4094}},
	{"bgeu x0,x31,0", api.Ins{Op: api.BGEU, Rs2: 31}},
	{"lb x1,3(x2)", api.Ins{Op: api.LB, Rd: 1, Rs1: 2, Imm: 3}},
	{"lh x1,-2048(x2)", api.Ins{Op: api.LH, Rd: 1, Rs1: 2, Imm: -2048}},
	{"lw x5,-4(x2)", api.Ins{Op: api.LW, Rd: 5, Rs1: 2, Imm: -4}},
	{"lbu x1,2047(x10)", api.Ins{Op: api.LBU, Rd: 1, Rs1: 10, Imm: 2047}},
	{"lhu x31,0(x31)", api.Ins{Op: api.LHU, Rd: 31, Rs1: 31}},
	{"sb x3,0(x4)", api.Ins{Op: api.SB, Rs1: 4, Rs2: 3}},
	{"sh x3,-2048(x2)", api.Ins{Op: api.SH, Rs1: 2, Rs2: 3, Imm: -2048}},
	{"sw x31,2047(x0)", api.Ins{Op: api.SW, Rs2: 31, Imm: 2047}},
	{"addi x0,x0,0", api.Ins{Op: api.ADDI}},
	{"addi x1,x2,-1", api.Ins{Op: api.ADDI, Rd: 1, Rs1: 2, Imm: -1}},
	{"slti x1,x2,5", api.Ins{Op: api.SLTI, Rd: 1, Rs1: 2, Imm: 5}},
	{"sltiu x1,x2,-5", api.Ins{Op: api.SLTIU, Rd: 1, Rs1: 2, Imm: -5}},
	{"xori x1,x2,10", api.Ins{Op: api.XORI, Rd: 1, Rs1: 2, Imm: 10}},
	{"ori x1,x2,100", api.Ins{Op: api.ORI, Rd: 1, Rs1: 2, Imm: 100}},
	{"andi x1,x2,1000", api.Ins{Op: api.ANDI, Rd: 1, Rs1: 2, Imm: 1000}},
	{"slli x1,x2,31", api.Ins{Op: api.SLLI, Rd: 1, Rs1: 2, Imm: 31}},
	{"srli x1,x2,0", api.Ins{Op: api.SRLI, Rd: 1, Rs1: 2}},
	{"srai x1,x2,16", api.Ins{Op: api.SRAI, Rd: 1, Rs1: 2, Imm: 16}},
	{"add x1,x2,x3", api.Ins{Op: api.ADD, Rd: 1, Rs1: 2, Rs2: 3}},
	{"sub x1,x2,x3", api.Ins{Op: api.SUB, Rd: 1, Rs1: 2, Rs2: 3}},
	{"sll x1,x2,x3", api.Ins{Op: api.SLL, Rd: 1, Rs1: 2, Rs2: 3}},
	{"slt x1,x2,x3", api.Ins{Op: api.SLT, Rd: 1, Rs1: 2, Rs2: 3}},
	{"sltu x1,x2,x3", api.Ins{Op: api.SLTU, Rd: 1, Rs1: 2, Rs2: 3}},
	{"xor x1,x2,x3", api.Ins{Op: api.XOR, Rd: 1, Rs1: 2, Rs2: 3}},
	{"srl x1,x2,x3", api.Ins{Op: api.SRL, Rd: 1, Rs1: 2, Rs2: 3}},
	{"sra x1,x2,x3", api.Ins{Op: api.SRA, Rd: 1, Rs1: 2, Rs2: 3}},
	{"or x0,x0,x0", api.Ins{Op: api.OR}},
	{"and x31,x31,x31", api.Ins{Op: api.AND, Rd: 31, Rs1: 31, Rs2: 31}},
	{"mul x1,x2,x3", api.Ins{Op: api.MUL, Rd: 1, Rs1: 2, Rs2: 3}},
	{"mulh x1,x2,x3", api.Ins{Op: api.MULH, Rd: 1, Rs1: 2, Rs2: 3}},
	{"mulhsu x1,x2,x3", api.Ins{Op: api.MULHSU, Rd: 1, Rs1: 2, Rs2: 3}},
	{"mulhu x1,x2,x3", api.Ins{Op: api.MULHU, Rd: 1, Rs1: 2, Rs2: 3}},
	{"div x1,x2,x3", api.Ins{Op: api.DIV, Rd: 1, Rs1: 2, Rs2: 3}},
	{"divu x1,x2,x3", api.Ins{Op: api.DIVU, Rd: 1, Rs1: 2, Rs2: 3}},
	{"rem x1,x2,x3", api.Ins{Op: api.REM, Rd: 1, Rs1: 2, Rs2: 3}},
	{"remu x10,x20,x30", api.Ins{Op: api.REMU, Rd: 10, Rs1: 20, Rs2: 30}},
	{"lr.w x1,(x2)", api.Ins{Op: api.LRW, Rd: 1, Rs1: 2}},
	{"lr.w.rl x1,(x2)", api.Ins{Op: api.LRW, Rd: 1, Rs1: 2, Imm: 1}},
	{"lr.w.aq x1,(x2)", api.Ins{Op: api.LRW, Rd: 1, Rs1: 2, Imm: 2}},
	{"lr.w.aqrl x31,(x31)", api.Ins{Op: api.LRW, Rd: 31, Rs1: 31, Imm: 3}},
	{"sc.w x1,x3,(x2)", api.Ins{Op: api.SCW, Rd: 1, Rs1: 2, Rs2: 3}},
	{"sc.w.rl x1,x3,(x2)", api.Ins{Op: api.SCW, Rd: 1, Rs1: 2, Rs2: 3, Imm: 1}},
	{"sc.w.aq x0,x0,(x0)", api.Ins{Op: api.SCW, Imm: 2}},
	{"sc.w.aqrl x1,x3,(x2)", api.Ins{Op: api.SCW, Rd: 1, Rs1: 2, Rs2: 3, Imm: 3}},
	{"amoswap.w x1,x3,(x2)", api.Ins{Op: api.AMOSWAP, Rd: 1, Rs1: 2, Rs2: 3}},
	{"amoadd.w.aq x0,x1,(x2)", api.Ins{Op: api.AMOADD, Rs1: 2, Rs2: 1, Imm: 2}},
	{"amoxor.w.rl x1,x3,(x2)", api.Ins{Op: api.AMOXOR, Rd: 1, Rs1: 2, Rs2: 3, Imm: 1}},
	{"amoand.w.aqrl x1,x3,(x2)", api.Ins{Op: api.AMOAND, Rd: 1, Rs1: 2, Rs2: 3, Imm: 3}},
	{"amoor.w x1,x3,(x2)", api.Ins{Op: api.AMOOR, Rd: 1, Rs1: 2, Rs2: 3}},
	{"amomin.w.aq x1,x3,(x2)", api.Ins{Op: api.AMOMIN, Rd: 1, Rs1: 2, Rs2: 3, Imm: 2}},
	{"amomax.w.rl x1,x3,(x2)", api.Ins{Op: api.AMOMAX, Rd: 1, Rs1: 2, Rs2: 3, Imm: 1}},
	{"amominu.w x1,x3,(x2)", api.Ins{Op: api.AMOMINU, Rd: 1, Rs1: 2, Rs2: 3}},
	{"amomaxu.w.aqrl x31,x31,(x31)", api.Ins{Op: api.AMOMAXU, Rd: 31, Rs1: 31, Rs2: 31, Imm: 3}},
	{"fence x0,x0,255", api.Ins{Op: api.FENCE, Imm: 255}},
	{"fence x1,x2,-2048", api.Ins{Op: api.FENCE, Rd: 1, Rs1: 2, Imm: -2048}},
	{"ecall", api.Ins{Op: api.ECALL}},
	{"ebreak", api.Ins{Op: api.EBREAK}},
}

func TestKnownTexts(t *testing.T) {
	seen := map[int]bool{}
	for _, k := range known {
		seen[k.ins.Op] = true
		if s, e := asm.Print(k.ins); e != api.OK || s != k.text {
			t.Errorf("Print(%v): %q %v, want %q", k.ins, s, e, k.text)
		}
		if i, e := asm.Parse(k.text); e != api.OK || i != k.ins {
			t.Errorf("Parse(%q): %v %v, want %v", k.text, i, e, k.ins)
		}
	}
	for op := api.LUI; op <= api.EBREAK; op++ {
		if !seen[op] {
			t.Errorf("no text of op %d is known", op)
		}
	}
}

// TestFieldsOfAllNames goes through the registers of each name, and the numbers of its Imm: all of those that are few, and the outer and middle ones of those that are many.
func TestFieldsOfAllNames(t *testing.T) {
	for _, r := range tableRows {
		for n := range 32 {
			for _, other := range []int{0, 9, 10, 31} {
				checkPrint(t, r.ins(n, other, other, r.low))
				checkPrint(t, r.ins(other, n, other, r.high))
				checkPrint(t, r.ins(other, other, n, r.low))
			}
		}
		for _, imm := range r.numbers() {
			checkPrint(t, r.ins(0, 0, 0, imm))
			checkPrint(t, r.ins(31, 10, 9, imm))
		}
	}
}

// ins is an instruction of the row, with those of the fields that it has.
func (r tableRow) ins(rd, rs1, rs2, imm int) api.Ins {
	i := api.Ins{Op: r.op, Imm: int32(imm)}
	if r.has("Rd") {
		i.Rd = rd
	}
	if r.has("Rs1") {
		i.Rs1 = rs1
	}
	if r.has("Rs2") {
		i.Rs2 = rs2
	}
	return i
}

// numbers are some that Imm may be.
func (r tableRow) numbers() []int {
	var all []int
	count := (r.high-r.low)/r.step + 1
	for k := range count {
		if k < 2100 || k > count-2100 || count/2-1100 < k && k < count/2+1100 || k%997 == 0 {
			all = append(all, r.low+k*r.step)
		}
	}
	return all
}

// TestTextsDiffer: no two instructions have the same text, nor two names the same instructions.
func TestTextsDiffer(t *testing.T) {
	texts := map[string]api.Ins{}
	for _, r := range tableRows {
		for _, n := range []int{0, 1, 30} {
			i := r.ins(n, n+1, n&1, r.high)
			s, e := asm.Print(i)
			if was, ok := texts[s]; ok && was != i || e != api.OK {
				t.Errorf("%q %v of %v, and of %v", s, e, i, was)
			}
			texts[s] = i
		}
	}
}

// TestMixedWords: Print tells a text of what Decode answers, whatever that is.
func TestMixedWords(t *testing.T) {
	w, ops := uint32(1), map[int]bool{}
	for n := range uint32(300000) {
		w = w*1664525 + 1013904223
		// A word that ends in other low bits than those of an instruction is seldom met by chance.
		i, ok := decode.Decode(w&^127 | n%128)
		if ok {
			ops[i.Op] = true
			checkPrint(t, i)
		}
		if t.Failed() {
			return
		}
	}
	if len(ops) < 40 {
		t.Errorf("%d ops met", len(ops))
	}
}

func TestInstructionsThatAreNone(t *testing.T) {
	for _, i := range []api.Ins{
		{},
		{Op: -1}, {Op: api.EBREAK + 1}, {Op: math.MaxInt}, {Op: math.MinInt}, {Op: 1<<32 + api.ADD},
		{Rd: 1, Rs1: 2, Rs2: 3, Imm: 4},
		{Op: api.ADD, Rd: 32}, {Op: api.ADD, Rs1: 32}, {Op: api.ADD, Rs2: 32},
		{Op: api.ADD, Rd: -1}, {Op: api.ADD, Rs1: -1}, {Op: api.ADD, Rs2: -1},
		{Op: api.ADD, Rd: 1 << 32}, {Op: api.ADD, Rs1: math.MaxInt}, {Op: api.ADD, Rs2: math.MinInt},
		{Op: api.ADD, Imm: 1}, {Op: api.REMU, Imm: -1},
		{Op: api.LUI, Imm: 1}, {Op: api.LUI, Imm: 4095}, {Op: api.AUIPC, Imm: -1}, {Op: api.LUI, Imm: math.MaxInt32},
		{Op: api.LUI, Rs1: 1}, {Op: api.LUI, Rs2: 1}, {Op: api.AUIPC, Rd: 32},
		{Op: api.JAL, Imm: 1}, {Op: api.JAL, Imm: -1}, {Op: api.JAL, Imm: 1 << 20}, {Op: api.JAL, Imm: -1<<20 - 2}, {Op: api.JAL, Rs1: 1},
		{Op: api.JALR, Imm: 2048}, {Op: api.JALR, Imm: -2049}, {Op: api.JALR, Rs2: 1},
		{Op: api.BEQ, Imm: 3}, {Op: api.BEQ, Imm: 4096}, {Op: api.BEQ, Imm: -4098}, {Op: api.BGEU, Rd: 1},
		{Op: api.LW, Imm: 2048}, {Op: api.LW, Imm: -2049}, {Op: api.LHU, Rs2: 1},
		{Op: api.SW, Imm: 2048}, {Op: api.SW, Imm: -2049}, {Op: api.SW, Rd: 1},
		{Op: api.ADDI, Imm: math.MaxInt32}, {Op: api.ADDI, Imm: math.MinInt32}, {Op: api.ADDI, Rs2: 1},
		{Op: api.SLLI, Imm: 32}, {Op: api.SLLI, Imm: -1}, {Op: api.SRAI, Imm: 1024}, {Op: api.SRLI, Imm: 1024},
		{Op: api.LRW, Rs2: 1}, {Op: api.LRW, Imm: 4}, {Op: api.LRW, Imm: -1}, {Op: api.SCW, Imm: 4},
		{Op: api.AMOADD, Imm: 4}, {Op: api.AMOMAXU, Imm: -1}, {Op: api.AMOSWAP, Imm: math.MinInt32}, {Op: api.AMOSWAP, Rs1: 32},
		{Op: api.FENCE, Rs2: 1}, {Op: api.FENCE, Imm: 2048}, {Op: api.FENCE, Imm: -2049},
		{Op: api.ECALL, Rd: 1}, {Op: api.ECALL, Rs1: 1}, {Op: api.ECALL, Rs2: 1}, {Op: api.ECALL, Imm: 1},
		{Op: api.EBREAK, Imm: 1}, {Op: api.EBREAK, Rd: 1},
	} {
		if s, e := asm.Print(i); s != "" || e != api.ErrForm {
			t.Errorf("Print(%v): %q %v", i, s, e)
		}
	}
}

// TestPrintAtBounds holds Print against the bounds of each field, all of them together.
func TestPrintAtBounds(t *testing.T) {
	regs := []int{math.MinInt, -1, 0, 1, 31, 32, 1 << 32}
	imms := []int32{0, 3, 2046, 4094, 1<<20 - 2}
	for bit := range 32 {
		n := int32(uint32(1) << bit)
		imms = append(imms, n, n-1, -n, -n-1)
	}
	for op := -1; op <= api.EBREAK+2; op++ {
		for at := range len(regs) * len(regs) * len(regs) {
			rd, rs1, rs2 := regs[at%7], regs[at/7%7], regs[at/49]
			for _, imm := range imms {
				checkPrint(t, api.Ins{Op: op, Rd: rd, Rs1: rs1, Rs2: rs2, Imm: imm})
			}
		}
		if t.Failed() {
			return
		}
	}
}

func TestNothingIsChanged(t *testing.T) {
	for _, k := range known {
		i, s := k.ins, strings.Clone(k.text)
		first, _ := asm.Print(i)
		read, _ := asm.Parse(s)
		asm.Parse(s + " ")
		second, _ := asm.Print(i)
		again, _ := asm.Parse(s)
		if i != k.ins || s != k.text {
			t.Errorf("%v, %q: handed in as %v, %q", i, s, k.ins, k.text)
		}
		if first != second || read != again {
			t.Errorf("%q, then %q; %v, then %v", first, second, read, again)
		}
	}
}
