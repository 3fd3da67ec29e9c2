// Package word reckons with words of 32 bits: see doc/01-word.md.
package word

import "ferrybridge/api"

// Alu answers what the operation op makes of a and b; 0 of an op that is none of its own.
func Alu(op int, a, b uint32) uint32 {
	switch op {
	case api.ADD:
		return a + b
	case api.SUB:
		return a - b
	case api.AND:
		return a & b
	case api.OR:
		return a | b
	case api.XOR:
		return a ^ b
	case api.SLL:
		return a << places(b)
	case api.SRL:
		return a >> places(b)
	case api.SRA:
		return uint32(signed(a) >> places(b))
	case api.SLT:
		return truth(signed(a) < signed(b))
	case api.SLTU:
		return truth(a < b)
	case api.MUL:
		return a * b
	case api.MULH:
		return upper(int64(signed(a)) * int64(signed(b)))
	case api.MULHSU:
		return upper(int64(signed(a)) * int64(b))
	case api.MULHU:
		return uint32(uint64(a) * uint64(b) >> 32)
	case api.DIV:
		return quotient(a, b)
	case api.REM:
		return remainder(a, b)
	case api.DIVU:
		return plainQuotient(a, b)
	case api.REMU:
		return plainRemainder(a, b)
	}
	return 0
}

// Holds says whether a and b are as the branch op asks; false of an op that is no branch.
func Holds(op int, a, b uint32) bool {
	switch op {
	case api.BEQ:
		return a == b
	case api.BNE:
		return a != b
	case api.BLT:
		return signed(a) < signed(b)
	case api.BGE:
		return signed(a) >= signed(b)
	case api.BLTU:
		return a < b
	case api.BGEU:
		return a >= b
	}
	return false
}

// Amo answers what the atomic instruction op makes of the word old that was there, and b; 0 of an op that is none of its own.
func Amo(op int, old, b uint32) uint32 {
	switch op {
	case api.AMOSWAP:
		return b
	case api.AMOADD:
		return Alu(api.ADD, old, b)
	case api.AMOXOR:
		return Alu(api.XOR, old, b)
	case api.AMOAND:
		return Alu(api.AND, old, b)
	case api.AMOOR:
		return Alu(api.OR, old, b)
	case api.AMOMIN:
		return uint32(min(signed(old), signed(b)))
	case api.AMOMAX:
		return uint32(max(signed(old), signed(b)))
	case api.AMOMINU:
		return min(old, b)
	case api.AMOMAXU:
		return max(old, b)
	}
	return 0
}

// signed is the word as a signed number (A1).
func signed(w uint32) int32 { return int32(w) }

// places is how far a word is moved: Go would move by all of b, so that nothing is left of a at 32 and more.
func places(b uint32) uint32 { return b & 31 }

// truth is a yes or no as a word.
func truth(yes bool) uint32 {
	if yes {
		return 1
	}
	return 0
}

// upper is the upper half of a product that has a sign.
func upper(product int64) uint32 { return uint32(uint64(product) >> 32) }

// quotient needs no case of its own for -2^31 by -1: Go says that it goes round to -2^31.
func quotient(a, b uint32) uint32 {
	if b == 0 {
		return 1<<32 - 1
	}
	return uint32(signed(a) / signed(b))
}

// remainder needs no case of its own for -2^31 by -1: Go says that nothing is left over.
func remainder(a, b uint32) uint32 {
	if b == 0 {
		return a
	}
	return uint32(signed(a) % signed(b))
}

// plainQuotient is the quotient of words that are not signed.
func plainQuotient(a, b uint32) uint32 {
	if b == 0 {
		return 1<<32 - 1
	}
	return a / b
}

// plainRemainder is what plainQuotient leaves over.
func plainRemainder(a, b uint32) uint32 {
	if b == 0 {
		return a
	}
	return a % b
}
