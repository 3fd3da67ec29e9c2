package block_test

import (
	"bytes"
	"slices"
	"strconv"
	"testing"

	"ferrybridge/api"
	"ferrybridge/block"
)

// checkBytes holds a block's bytes against what is wanted, and against the words that stand there.
func checkBytes(t *testing.T, name string, m []byte, pc, to uint32) {
	t.Helper()
	b := block.Make(m, pc)
	r := block.Bytes(b)
	if r != (api.Range{From: pc, To: to}) || int(r.To-r.From) != 4*len(b.Ins) {
		t.Errorf("%s: bytes %v of %v, want them up to %d", name, r, b, to)
		return
	}
	var words []byte
	for _, i := range b.Ins {
		words = put(words, encoded(t, i))
	}
	if !bytes.Equal(words, m[r.From:r.To]) {
		t.Errorf("%s: words %v, bytes %v", name, words, m[r.From:r.To])
	}
}

// TestBytes: F2: the bytes of blocks of no instruction, of one and of many, that begin at once, within the memory and at its end.
func TestBytes(t *testing.T) {
	for _, skip := range []int{0, 1, 3, 100} {
		at := uint32(4 * skip)
		for count := range 3 * api.MaxBlock {
			name := strconv.Itoa(count) + " instructions at " + strconv.Itoa(int(at))
			to := at + 4*uint32(min(count, api.MaxBlock))
			row := fillers(count)
			checkBytes(t, name, memory(t, skip, row...), at, to)
			checkBytes(t, name+", then no instruction", put(memory(t, skip, row...), 0, 19), at, to)
		}
		for _, e := range enders() {
			checkBytes(t, "op "+strconv.Itoa(e.Op)+" at once", memory(t, skip, e, filler(1)), at, at+4)
			checkBytes(t, "op "+strconv.Itoa(e.Op), memory(t, skip, filler(1), filler(2), e, filler(3)), at, at+12)
		}
		checkBytes(t, "no instruction", put(memory(t, skip), 0, 19), at, at)
		checkBytes(t, "an odd place", memory(t, skip, fillers(4)...), at+2, at+2)
	}
	m := memory(t, 0, fillers(api.MaxMemory/4)...)
	checkBytes(t, "the last word", m, api.MaxMemory-4, api.MaxMemory)
	checkBytes(t, "the last block", m, api.MaxMemory-4*api.MaxBlock, api.MaxMemory)
	checkBytes(t, "behind the last word", m, api.MaxMemory, api.MaxMemory)
}

// TestBytesAlone: F2: a block hangs on its bytes: each bit that changes there changes it; what changes ahead of them does not, and what changes behind them leaves its instructions.
func TestBytesAlone(t *testing.T) {
	m := memory(t, 4, filler(1), filler(2), api.Ins{Op: api.LRW, Rd: 3, Rs1: 4, Imm: 2}, filler(5))
	m = put(m, 0, 19, 115)
	b := block.Make(m, 16)
	r := block.Bytes(b)
	if r != (api.Range{From: 16, To: 32}) {
		t.Fatalf("bytes %v", r)
	}
	for at := range len(m) {
		for bit := range 8 {
			changed := bytes.Clone(m)
			changed[at] ^= 1 << bit
			other := block.Make(changed, 16)
			within := at >= int(r.From) && at < int(r.To)
			if within && slices.Equal(other.Ins, b.Ins) {
				t.Errorf("bit %d of byte %d changes nothing", bit, at)
			}
			if !within && !slices.Equal(other.Ins[:len(b.Ins)], b.Ins) {
				t.Errorf("bit %d of byte %d: %v, want %v", bit, at, other, b)
			}
		}
	}
}

// TestBytesOfAny: F2 of blocks that Make never answers: their bytes do not go round to 0.
func TestBytesOfAny(t *testing.T) {
	for _, c := range []struct {
		pc    uint32
		count int
		to    uint32
	}{
		{0, 0, 0}, {0, 17, 68}, {3, 2, 11}, {1 << 31, 4, 1<<31 + 16}, {1<<31 - 8, 4, 1<<31 + 8},
		{ones, 0, ones}, {ones, 1, ones}, {ones - 3, 1, ones}, {ones - 4, 1, ones}, {ones - 5, 1, ones - 1}, {ones - 3, 16, ones}, {ones - 100, 1000, ones},
	} {
		b := api.Block{PC: c.pc, Ins: make([]api.Ins, c.count)}
		if r := block.Bytes(b); r != (api.Range{From: c.pc, To: c.to}) {
			t.Errorf("%d instructions at %d: %v, want them up to %d", c.count, c.pc, r, c.to)
		}
	}
	if r := block.Bytes(api.Block{}); r != (api.Range{}) {
		t.Errorf("of an empty block: %v", r)
	}
}
