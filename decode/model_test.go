package decode_test

import (
	"testing"

	"ferrybridge/api"
	"ferrybridge/decode"
)

// A model of the chapter, that reads a word bit by bit.

// tableRow is an instruction of B2: what it is told by; -1 where its form is not told by that part.
type tableRow struct {
	op            int
	form          byte
	low, mid, top int
}

var rows = []tableRow{
	{api.LUI, 'U', 55, -1, -1}, {api.AUIPC, 'U', 23, -1, -1}, {api.JAL, 'J', 111, -1, -1}, {api.JALR, 'I', 103, 0, -1},
	{api.BEQ, 'B', 99, 0, -1}, {api.BNE, 'B', 99, 1, -1}, {api.BLT, 'B', 99, 4, -1}, {api.BGE, 'B', 99, 5, -1}, {api.BLTU, 'B', 99, 6, -1}, {api.BGEU, 'B', 99, 7, -1},
	{api.LB, 'I', 3, 0, -1}, {api.LH, 'I', 3, 1, -1}, {api.LW, 'I', 3, 2, -1}, {api.LBU, 'I', 3, 4, -1}, {api.LHU, 'I', 3, 5, -1},
	{api.SB, 'S', 35, 0, -1}, {api.SH, 'S', 35, 1, -1}, {api.SW, 'S', 35, 2, -1},
	{api.ADDI, 'I', 19, 0, -1}, {api.SLTI, 'I', 19, 2, -1}, {api.SLTIU, 'I', 19, 3, -1}, {api.XORI, 'I', 19, 4, -1}, {api.ORI, 'I', 19, 6, -1}, {api.ANDI, 'I', 19, 7, -1},
	{api.SLLI, 'H', 19, 1, 0}, {api.SRLI, 'H', 19, 5, 0}, {api.SRAI, 'H', 19, 5, 32},
	{api.ADD, 'R', 51, 0, 0}, {api.SLL, 'R', 51, 1, 0}, {api.SLT, 'R', 51, 2, 0}, {api.SLTU, 'R', 51, 3, 0}, {api.XOR, 'R', 51, 4, 0}, {api.SRL, 'R', 51, 5, 0}, {api.OR, 'R', 51, 6, 0}, {api.AND, 'R', 51, 7, 0},
	{api.SUB, 'R', 51, 0, 32}, {api.SRA, 'R', 51, 5, 32},
	{api.MUL, 'R', 51, 0, 1}, {api.MULH, 'R', 51, 1, 1}, {api.MULHSU, 'R', 51, 2, 1}, {api.MULHU, 'R', 51, 3, 1}, {api.DIV, 'R', 51, 4, 1}, {api.DIVU, 'R', 51, 5, 1}, {api.REM, 'R', 51, 6, 1}, {api.REMU, 'R', 51, 7, 1},
	{api.LRW, 'A', 47, 2, 2}, {api.SCW, 'A', 47, 2, 3}, {api.AMOSWAP, 'A', 47, 2, 1}, {api.AMOADD, 'A', 47, 2, 0}, {api.AMOXOR, 'A', 47, 2, 4}, {api.AMOAND, 'A', 47, 2, 12}, {api.AMOOR, 'A', 47, 2, 8}, {api.AMOMIN, 'A', 47, 2, 16}, {api.AMOMAX, 'A', 47, 2, 20}, {api.AMOMINU, 'A', 47, 2, 24}, {api.AMOMAXU, 'A', 47, 2, 28},
	{api.FENCE, 'I', 15, 0, -1},
	{api.ECALL, 'E', 115, 0, 0}, {api.EBREAK, 'E', 115, 0, 0},
}

// word is a word that the row tells, its other bits taken from fields.
func (r tableRow) word(fields uint32) uint32 {
	w := put(fields, 6, 0, r.low)
	switch r.form {
	case 'I', 'B', 'S':
		w = put(w, 14, 12, r.mid)
	case 'H', 'R':
		w = put(put(w, 14, 12, r.mid), 31, 25, r.top)
	case 'A':
		w = put(put(w, 14, 12, r.mid), 31, 27, r.top)
	case 'E':
		w = wholeWord(r.op)
	}
	return w
}

func (r tableRow) tells(w uint32) bool {
	if number(w, 6, 0) != r.low {
		return false
	}
	switch r.form {
	case 'U', 'J':
		return true
	case 'H', 'R':
		return number(w, 14, 12) == r.mid && number(w, 31, 25) == r.top
	case 'A':
		return number(w, 14, 12) == r.mid && number(w, 31, 27) == r.top && (r.op != api.LRW || number(w, 24, 20) == 0)
	case 'E':
		return w == wholeWord(r.op)
	}
	return number(w, 14, 12) == r.mid
}

func wholeWord(op int) uint32 {
	if op == api.ECALL {
		return 115
	}
	return 1048691
}

func put(w uint32, high, low, n int) uint32 {
	for bit := low; bit <= high; bit++ {
		w = w&^(1<<bit) | uint32(n>>(bit-low)&1)<<bit
	}
	return w
}

// number reads the bits from high down to low, for each two that are given, as one number from 0 on.
func number(w uint32, highLow ...int) int {
	n := 0
	for at := 0; at < len(highLow); at += 2 {
		for bit := highLow[at]; bit >= highLow[at+1]; bit-- {
			n = 2*n + int(w>>bit&1)
		}
	}
	return n
}

func signed(n, bits int) int32 {
	if n >= 1<<(bits-1) {
		n -= 1 << bits
	}
	return int32(n)
}

func model(w uint32) (api.Ins, bool) {
	for _, r := range rows {
		if !r.tells(w) {
			continue
		}
		rd, rs1, rs2 := number(w, 11, 7), number(w, 19, 15), number(w, 24, 20)
		switch r.form {
		case 'U':
			return api.Ins{Op: r.op, Rd: rd, Imm: signed(number(w, 31, 12)*4096, 32)}, true
		case 'J':
			return api.Ins{Op: r.op, Rd: rd, Imm: signed(2*number(w, 31, 31, 19, 12, 20, 20, 30, 21), 21)}, true
		case 'I':
			return api.Ins{Op: r.op, Rd: rd, Rs1: rs1, Imm: signed(number(w, 31, 20), 12)}, true
		case 'H':
			return api.Ins{Op: r.op, Rd: rd, Rs1: rs1, Imm: int32(number(w, 24, 20))}, true
		case 'B':
			return api.Ins{Op: r.op, Rs1: rs1, Rs2: rs2, Imm: signed(2*number(w, 31, 31, 7, 7, 30, 25, 11, 8), 13)}, true
		case 'S':
			return api.Ins{Op: r.op, Rs1: rs1, Rs2: rs2, Imm: signed(number(w, 31, 25, 11, 7), 12)}, true
		case 'R':
			return api.Ins{Op: r.op, Rd: rd, Rs1: rs1, Rs2: rs2}, true
		case 'A':
			return api.Ins{Op: r.op, Rd: rd, Rs1: rs1, Rs2: rs2, Imm: int32(number(w, 26, 25))}, true
		}
		return api.Ins{Op: r.op}, true
	}
	return api.Ins{}, false
}

// fits says whether the fields are within what the form can tell.
func fits(i api.Ins) bool {
	reg := func(n int) bool { return n >= 0 && n < 32 }
	imm := func(low, high, step int32) bool { return i.Imm >= low && i.Imm <= high && i.Imm%step == 0 }
	for _, r := range rows {
		if r.op != i.Op {
			continue
		}
		switch r.form {
		case 'U':
			return reg(i.Rd) && i.Rs1 == 0 && i.Rs2 == 0 && i.Imm%4096 == 0
		case 'J':
			return reg(i.Rd) && i.Rs1 == 0 && i.Rs2 == 0 && imm(-1<<20, 1<<20-2, 2)
		case 'I':
			return reg(i.Rd) && reg(i.Rs1) && i.Rs2 == 0 && imm(-2048, 2047, 1)
		case 'H':
			return reg(i.Rd) && reg(i.Rs1) && i.Rs2 == 0 && imm(0, 31, 1)
		case 'B':
			return i.Rd == 0 && reg(i.Rs1) && reg(i.Rs2) && imm(-4096, 4094, 2)
		case 'S':
			return i.Rd == 0 && reg(i.Rs1) && reg(i.Rs2) && imm(-2048, 2047, 1)
		case 'R':
			return reg(i.Rd) && reg(i.Rs1) && reg(i.Rs2) && i.Imm == 0
		case 'A':
			return reg(i.Rd) && reg(i.Rs1) && reg(i.Rs2) && imm(0, 3, 1) && (i.Op != api.LRW || i.Rs2 == 0)
		}
		return i == api.Ins{Op: i.Op}
	}
	return false
}

// check holds a word against the model, and, if it is an instruction, what Encode makes of that against the word.
func check(t *testing.T, w uint32) api.Ins {
	want, is := model(w)
	got, ok := decode.Decode(w)
	if got != want || ok != is {
		t.Errorf("Decode(%032b): %v %v, want %v %v", w, got, ok, want, is)
	}
	if back, e := decode.Encode(want); is && (back != w || e != api.OK) {
		t.Errorf("Encode(%v): %032b %v, want %032b", want, back, e, w)
	}
	return want
}

func checkEncode(t *testing.T, i api.Ins) {
	w, e := decode.Encode(i)
	if !fits(i) {
		if w != 0 || e != api.ErrForm {
			t.Errorf("Encode(%v): %032b %v, want ErrForm", i, w, e)
		}
		return
	}
	if back, ok := model(w); e != api.OK || !ok || back != i {
		t.Errorf("Encode(%v): %032b %v", i, w, e)
	}
}
