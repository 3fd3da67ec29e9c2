package word_test

import (
	"math"
	"math/big"
	"math/bits"
	"slices"
	"testing"

	"ferrybridge/api"
	"ferrybridge/word"
)

const (
	top  = uint32(1 << 31)   // signed: -2^31, the least
	high = uint32(1<<31 - 1) // signed: the greatest
	ones = uint32(1<<32 - 1) // signed: -1
)

// edges are words whose pairs reach every edge that the chapter names.
var edges = []uint32{
	0, 1, 2, 3, 5, 7, 10, 30, 31, 32, 33, 63, 64, 255, 256,
	1<<16 - 1, 1 << 16, 1<<16 + 1, 0x12345678, 0x55555555,
	high - 1, high, top, top + 1, top + 31, 0xaaaaaaaa, 0xdeadbeef,
	ones - 31, ones - 9, ones - 6, ones - 2, ones - 1, ones,
}

var aluOps = []int{
	api.ADD, api.SUB, api.AND, api.OR, api.XOR, api.SLL, api.SRL, api.SRA, api.SLT, api.SLTU,
	api.MUL, api.MULH, api.MULHSU, api.MULHU, api.DIV, api.REM, api.DIVU, api.REMU,
}

var branchOps = []int{api.BEQ, api.BNE, api.BLT, api.BGE, api.BLTU, api.BGEU}

var amoOps = []int{
	api.AMOSWAP, api.AMOADD, api.AMOXOR, api.AMOAND, api.AMOOR,
	api.AMOMIN, api.AMOMAX, api.AMOMINU, api.AMOMAXU,
}

// plain is a word as a number from 0 on, by the words of A1, without Go's own conversions between signed and not.
func plain(w uint32) *big.Int { return new(big.Int).SetUint64(uint64(w)) }

// withSign is a word as a signed number, by the words of A1.
func withSign(w uint32) *big.Int {
	n := plain(w)
	if w >= top {
		n.Sub(n, new(big.Int).Lsh(big.NewInt(1), 32))
	}
	return n
}

// cut drops what is beyond 32 bits; the remainder of big.Int's Mod is never below 0.
func cut(n *big.Int) uint32 {
	return uint32(new(big.Int).Mod(n, new(big.Int).Lsh(big.NewInt(1), 32)).Uint64())
}

func bit(yes bool) uint32 {
	if yes {
		return 1
	}
	return 0
}

// moved tells SLL, SRL and SRA by doubling and halving, one place after the other.
func moved(op int, a, b uint32) uint32 {
	for range b % 32 {
		switch op {
		case api.SLL:
			a += a
		case api.SRL:
			a /= 2
		default:
			a = a/2 + a/top*top
		}
	}
	return a
}

// bitwise tells AND, OR and XOR bit by bit, from how many of the two bits are 1.
func bitwise(op int, a, b uint32) uint32 {
	w := uint32(0)
	for i := range 32 {
		n := a>>i%2 + b>>i%2
		if op == api.AND && n == 2 || op == api.OR && n > 0 || op == api.XOR && n == 1 {
			w += 1 << i
		}
	}
	return w
}

// divided tells DIV, REM, DIVU and REMU in numbers without bounds; big.Int's Quo and Rem go towards 0.
func divided(op int, a, b uint32) uint32 {
	quotient := op == api.DIV || op == api.DIVU
	if b == 0 && quotient {
		return ones
	}
	if b == 0 {
		return a
	}
	n, d := plain(a), plain(b)
	if op == api.DIV || op == api.REM {
		n, d = withSign(a), withSign(b)
	}
	if quotient {
		return cut(n.Quo(n, d))
	}
	return cut(n.Rem(n, d))
}

// alu tells what A2 says, in numbers without bounds.
func alu(op int, a, b uint32) uint32 {
	upper := func(x, y *big.Int) uint32 { return cut(x.Rsh(x.Mul(x, y), 32)) }
	switch op {
	case api.ADD:
		return cut(new(big.Int).Add(plain(a), plain(b)))
	case api.SUB:
		return cut(new(big.Int).Sub(plain(a), plain(b)))
	case api.AND, api.OR, api.XOR:
		return bitwise(op, a, b)
	case api.SLL, api.SRL, api.SRA:
		return moved(op, a, b)
	case api.SLT:
		return bit(withSign(a).Cmp(withSign(b)) < 0)
	case api.SLTU:
		return bit(plain(a).Cmp(plain(b)) < 0)
	case api.MUL:
		return cut(new(big.Int).Mul(plain(a), plain(b)))
	case api.MULH:
		return upper(withSign(a), withSign(b))
	case api.MULHSU:
		return upper(withSign(a), plain(b))
	case api.MULHU:
		return upper(plain(a), plain(b))
	}
	return divided(op, a, b)
}

// holds tells what A3 says of branches.
func holds(op int, a, b uint32) bool {
	with, without := withSign(a).Cmp(withSign(b)), plain(a).Cmp(plain(b))
	switch op {
	case api.BEQ:
		return without == 0
	case api.BNE:
		return without != 0
	case api.BLT:
		return with < 0
	case api.BGE:
		return with >= 0
	case api.BLTU:
		return without < 0
	}
	return without >= 0
}

// amo tells what A3 says of atomic instructions.
func amo(op int, old, b uint32) uint32 {
	with, without := withSign(old).Cmp(withSign(b)), plain(old).Cmp(plain(b))
	takeOld := false
	switch op {
	case api.AMOADD:
		return alu(api.ADD, old, b)
	case api.AMOXOR:
		return alu(api.XOR, old, b)
	case api.AMOAND:
		return alu(api.AND, old, b)
	case api.AMOOR:
		return alu(api.OR, old, b)
	case api.AMOMIN:
		takeOld = with < 0
	case api.AMOMAX:
		takeOld = with > 0
	case api.AMOMINU:
		takeOld = without < 0
	case api.AMOMAXU:
		takeOld = without > 0
	}
	if takeOld {
		return old
	}
	return b
}

type pair struct{ a, b uint32 }

// pairs are all pairs of edges, and some thousand more that a fixed rule strews.
func pairs() []pair {
	var all []pair
	for _, a := range edges {
		for _, b := range edges {
			all = append(all, pair{a, b})
		}
	}
	seed := uint32(1)
	next := func() uint32 {
		seed ^= seed << 13
		seed ^= seed >> 17
		seed ^= seed << 5
		return seed
	}
	for range 1000 {
		a, b := next(), next()
		all = append(all, pair{a, b}, pair{a, b >> 16}, pair{a >> 16, b}, pair{a, a})
	}
	return all
}

// TestSigned: A1. Each word is told apart from its neighbours, as it is signed and as it is not.
func TestSigned(t *testing.T) {
	rising := []uint32{top, top + 1, ones - 1, ones, 0, 1, high - 1, high}
	for i, a := range rising {
		for k, b := range rising {
			if got := word.Alu(api.SLT, a, b); got != bit(i < k) {
				t.Errorf("Alu(SLT, %d, %d) = %d", a, b, got)
			}
			if got := word.Holds(api.BLT, a, b); got != (i < k) {
				t.Errorf("Holds(BLT, %d, %d) = %v", a, b, got)
			}
			if got := word.Amo(api.AMOMIN, a, b); got != rising[min(i, k)] {
				t.Errorf("Amo(AMOMIN, %d, %d) = %d", a, b, got)
			}
			if got := word.Amo(api.AMOMAX, a, b); got != rising[max(i, k)] {
				t.Errorf("Amo(AMOMAX, %d, %d) = %d", a, b, got)
			}
		}
	}
}

// TestAluWritten: A2, with answers that are written out by hand.
func TestAluWritten(t *testing.T) {
	for _, c := range []struct {
		name       string
		op         int
		a, b, want uint32
	}{
		{"ADD", api.ADD, 2, 3, 5},
		{"ADD goes round", api.ADD, ones, 1, 0},
		{"SUB", api.SUB, 5, 3, 2},
		{"SUB goes round", api.SUB, 0, 1, ones},
		{"AND", api.AND, 12, 10, 8},
		{"OR", api.OR, 12, 10, 14},
		{"XOR", api.XOR, 12, 10, 6},
		{"SLL", api.SLL, 3, 4, 48},
		{"SLL by 31", api.SLL, 3, 31, top},
		{"SLL by 32", api.SLL, 3, 32, 3},
		{"SLL by 33", api.SLL, 3, 33, 6},
		{"SLL by all bits", api.SLL, 1, ones, top},
		{"SRL", api.SRL, 48, 4, 3},
		{"SRL by 31", api.SRL, ones, 31, 1},
		{"SRL by 32", api.SRL, ones, 32, ones},
		{"SRL by 2^31 and 1", api.SRL, 8, top + 1, 4},
		{"SRA of a low word", api.SRA, 48, 4, 3},
		{"SRA of a high word", api.SRA, top, 4, 0xf8000000},
		{"SRA by 31", api.SRA, top, 31, ones},
		{"SRA by 32", api.SRA, top, 32, top},
		{"SRA by 63", api.SRA, high, 63, 0},
		{"SLT", api.SLT, ones, 0, 1},
		{"SLT of the same", api.SLT, top, top, 0},
		{"SLT, greater", api.SLT, high, top, 0},
		{"SLTU", api.SLTU, 0, ones, 1},
		{"SLTU of the same", api.SLTU, top, top, 0},
		{"SLTU, greater", api.SLTU, top, high, 0},
		{"MUL", api.MUL, 6, 7, 42},
		{"MUL goes round", api.MUL, 1 << 16, 1 << 16, 0},
		{"MUL of high words", api.MUL, ones, ones, 1},
		{"MULH, the chapter's example", api.MULH, top, 2, ones},
		{"MULH of the least", api.MULH, top, top, 1 << 30},
		{"MULH of -1 and -1", api.MULH, ones, ones, 0},
		{"MULHSU of -1 and 2^32-1", api.MULHSU, ones, ones, ones},
		{"MULHSU of 1 and 2^32-1", api.MULHSU, 1, ones, 0},
		{"MULHSU of the least", api.MULHSU, top, ones, top},
		{"MULHU", api.MULHU, ones, ones, ones - 1},
		{"MULHU of 2^31", api.MULHU, top, 2, 1},
		{"DIV", api.DIV, 7, 2, 3},
		{"DIV of -7 by 2", api.DIV, ones - 6, 2, ones - 2},
		{"DIV of 7 by -2", api.DIV, 7, ones - 1, ones - 2},
		{"DIV of -7 by -2", api.DIV, ones - 6, ones - 1, 3},
		{"DIV by 0", api.DIV, 7, 0, ones},
		{"DIV of 0 by 0", api.DIV, 0, 0, ones},
		{"DIV of the least by 0", api.DIV, top, 0, ones},
		{"DIV of the least by -1", api.DIV, top, ones, top},
		{"REM", api.REM, 7, 2, 1},
		{"REM of -7 by 2", api.REM, ones - 6, 2, ones},
		{"REM of 7 by -2", api.REM, 7, ones - 1, 1},
		{"REM of -7 by -2", api.REM, ones - 6, ones - 1, ones},
		{"REM by 0", api.REM, ones - 6, 0, ones - 6},
		{"REM of the least by -1", api.REM, top, ones, 0},
		{"DIVU", api.DIVU, 7, 2, 3},
		{"DIVU of 2^31", api.DIVU, top, 2, 1 << 30},
		{"DIVU of 2^31 by 2^32-1", api.DIVU, top, ones, 0},
		{"DIVU by 0", api.DIVU, 7, 0, ones},
		{"REMU", api.REMU, 7, 2, 1},
		{"REMU of 2^31 by 2^32-1", api.REMU, top, ones, top},
		{"REMU by 0", api.REMU, ones - 6, 0, ones - 6},
	} {
		if got := word.Alu(c.op, c.a, c.b); got != c.want {
			t.Errorf("%s: Alu(%d, %d, %d) = %d, want %d", c.name, c.op, c.a, c.b, got, c.want)
		}
	}
}

// TestAluReckoned: A2, against numbers without bounds.
func TestAluReckoned(t *testing.T) {
	for _, p := range pairs() {
		for _, op := range aluOps {
			if got, want := word.Alu(op, p.a, p.b), alu(op, p.a, p.b); got != want {
				t.Fatalf("Alu(%d, %d, %d) = %d, want %d", op, p.a, p.b, got, want)
			}
		}
	}
}

// TestHoldsWritten: A3, with answers that are written out by hand.
func TestHoldsWritten(t *testing.T) {
	for _, c := range []struct {
		a, b uint32
		want [6]bool // BEQ, BNE, BLT, BGE, BLTU, BGEU
	}{
		{0, 0, [6]bool{true, false, false, true, false, true}},
		{1, 2, [6]bool{false, true, true, false, true, false}},
		{2, 1, [6]bool{false, true, false, true, false, true}},
		{top, top, [6]bool{true, false, false, true, false, true}},
		{top, 0, [6]bool{false, true, true, false, false, true}},
		{0, top, [6]bool{false, true, false, true, true, false}},
		{top, high, [6]bool{false, true, true, false, false, true}},
		{ones, top, [6]bool{false, true, false, true, false, true}},
	} {
		for i, op := range branchOps {
			if got := word.Holds(op, c.a, c.b); got != c.want[i] {
				t.Errorf("Holds(%d, %d, %d) = %v", op, c.a, c.b, got)
			}
		}
	}
}

// TestAmoWritten: A3, with answers that are written out by hand.
func TestAmoWritten(t *testing.T) {
	for _, c := range []struct {
		old, b uint32
		want   [9]uint32 // AMOSWAP, ADD, XOR, AND, OR, MIN, MAX, MINU, MAXU
	}{
		{12, 10, [9]uint32{10, 22, 6, 8, 14, 10, 12, 10, 12}},
		{10, 12, [9]uint32{12, 22, 6, 8, 14, 10, 12, 10, 12}},
		{top, 0, [9]uint32{0, top, top, 0, top, top, 0, 0, top}},
		{0, top, [9]uint32{top, top, top, 0, top, top, 0, 0, top}},
		{ones, 1, [9]uint32{1, 0, ones - 1, 1, ones, ones, 1, 1, ones}},
		{top, ones, [9]uint32{ones, high, high, top, ones, top, ones, top, ones}},
		{top, top, [9]uint32{top, 0, 0, top, top, top, top, top, top}},
	} {
		for i, op := range amoOps {
			if got := word.Amo(op, c.old, c.b); got != c.want[i] {
				t.Errorf("Amo(%d, %d, %d) = %d, want %d", op, c.old, c.b, got, c.want[i])
			}
		}
	}
}

// TestOthersReckoned: A3, against numbers without bounds.
func TestOthersReckoned(t *testing.T) {
	for _, p := range pairs() {
		for _, op := range branchOps {
			if got, want := word.Holds(op, p.a, p.b), holds(op, p.a, p.b); got != want {
				t.Fatalf("Holds(%d, %d, %d) = %v, want %v", op, p.a, p.b, got, want)
			}
		}
		for _, op := range amoOps {
			if got, want := word.Amo(op, p.a, p.b), amo(op, p.a, p.b); got != want {
				t.Fatalf("Amo(%d, %d, %d) = %d, want %d", op, p.a, p.b, got, want)
			}
		}
	}
}

// strangers are the ops round about those of package api, without the own ones of a call, and the own ones with one high bit more: these show a call that reads only a part of op.
func strangers(own []int) []int {
	var all []int
	for op := -100; op <= 700; op++ {
		if !slices.Contains(own, op) {
			all = append(all, op)
		}
	}
	for _, op := range own {
		for place := 10; place < bits.UintSize; place++ {
			all = append(all, op+1<<place)
		}
	}
	return append(all, math.MinInt, math.MaxInt)
}

// TestStrangeOps: A2 and A3: 0, or false, of ops that are not among those of the call.
func TestStrangeOps(t *testing.T) {
	some := []pair{{0, 0}, {1, 1}, {7, 0}, {0, 7}, {1, 2}, {top, ones}, {ones, top}, {ones, ones}}
	for _, p := range some {
		for _, op := range strangers(aluOps) {
			if got := word.Alu(op, p.a, p.b); got != 0 {
				t.Errorf("Alu(%d, %d, %d) = %d, want 0", op, p.a, p.b, got)
			}
		}
		for _, op := range strangers(branchOps) {
			if word.Holds(op, p.a, p.b) {
				t.Errorf("Holds(%d, %d, %d) = true, want false", op, p.a, p.b)
			}
		}
		for _, op := range strangers(amoOps) {
			if got := word.Amo(op, p.a, p.b); got != 0 {
				t.Errorf("Amo(%d, %d, %d) = %d, want 0", op, p.a, p.b, got)
			}
		}
	}
}
