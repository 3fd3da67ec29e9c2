package trans_test

import (
	"math"
	"slices"
	"strconv"
	"testing"

	"ferrybridge/api"
	"ferrybridge/micro"
	"ferrybridge/trans"
)

// checkOther: H1 of a block that is none of any memory: small steps that may be, the same ones each time, and the block as it was.
func checkOther(t *testing.T, name string, b api.Block) {
	t.Helper()
	ins := slices.Clone(b.Ins)
	code := trans.Make(b)
	if !micro.May(code) {
		t.Errorf("%s: %v", name, code)
	}
	if again := trans.Make(b); !slices.Equal(code, again) {
		t.Errorf("%s: %v, then %v", name, code, again)
	}
	if !slices.Equal(b.Ins, ins) {
		t.Errorf("%s: the block that was handed in became %v", name, b)
	}
}

// odd are numbers that few fields may be.
func odd() []int {
	return []int{math.MinInt, math.MinInt32, -600, -100, -32, -1, 0, 1, 31, 32, 35, 36, 58, 59, 60, 61, 99, 100, 105, 200, 400, 600, 656, 657, math.MaxInt32, 1 << 32, 1<<32 + api.ADDI, math.MaxInt}
}

// TestEmpty: H1: blocks without instructions, such as block.Make answers where none is, at each kind of place.
func TestEmpty(t *testing.T) {
	for _, pc := range []uint32{0, 1, 4, place, api.MaxMemory, 1 << 31, ones} {
		for _, ins := range [][]api.Ins{nil, {}} {
			if code := small(t, "empty", api.Block{PC: pc, Ins: ins}); len(code) > 1 {
				t.Errorf("at %d: %v", pc, code)
			}
		}
	}
}

// TestNoInstruction: H1: ops that are none, and registers that are none, alone and behind others.
func TestNoInstruction(t *testing.T) {
	for _, n := range odd() {
		name := strconv.Itoa(n)
		rows := [][]api.Ins{{{Op: n}}, {after(), {Op: n}, after()}, {{Op: n, Rd: n, Rs1: n, Rs2: n, Imm: int32(n)}}}
		for op := api.LUI; op <= api.EBREAK; op++ {
			for _, i := range []api.Ins{{Op: op, Rd: n}, {Op: op, Rs1: n}, {Op: op, Rs2: n}, {Op: op, Imm: int32(n)}, {Op: op, Rd: n, Rs1: n, Rs2: n, Imm: -1}} {
				rows = append(rows, []api.Ins{i}, []api.Ins{after(), i, after()})
			}
		}
		for _, row := range rows {
			checkOther(t, name, api.Block{PC: place, Ins: row})
		}
	}
}

// TestTooLong: H1: more instructions than a block has, of each kind: no more small steps than may be.
func TestTooLong(t *testing.T) {
	for op := -1; op <= api.EBREAK+1; op++ {
		for _, count := range []int{api.MaxBlock - 1, api.MaxBlock, api.MaxBlock + 1, 18, 49, 50, 66, 67, 99, 100, 101, 199, 200, 201, 1000, 50000} {
			checkOther(t, strconv.Itoa(count), api.Block{PC: place, Ins: slices.Repeat([]api.Ins{{Op: op}}, count)})
		}
	}
}

// TestOddBlocks: H1: blocks that go on behind what ends one, and at places where no memory is: at no multiple of 4, beyond MaxMemory, and round behind 2^32 - 1.
func TestOddBlocks(t *testing.T) {
	for op := api.LUI; op <= api.EBREAK; op++ {
		for _, pc := range []uint32{0, 1, 2, 3, api.MaxMemory - 4, api.MaxMemory, 1 << 31, ones - 7, ones - 3, ones} {
			i := kind(op, 5, 6, 7, 4)
			checkOther(t, "op "+strconv.Itoa(op), api.Block{PC: pc, Ins: []api.Ins{i, after(), i, i}})
			checkOther(t, "op "+strconv.Itoa(op), api.Block{PC: pc, Ins: slices.Repeat([]api.Ins{i}, api.MaxBlock)})
		}
	}
}

// TestNotShared: P3: what is answered is new each time, and what lies behind the block's length is neither read nor written.
func TestNotShared(t *testing.T) {
	ins := append(counters(3), api.Ins{Op: api.JALR, Rd: 5, Rs1: 5}, after())
	whole := slices.Clone(ins)
	b := api.Block{PC: place, Ins: ins[:4]}
	one, two := trans.Make(b), trans.Make(b)
	want := slices.Clone(two)
	for k := range one {
		one[k] = api.Micro{}
	}
	_ = append(one, api.Micro{})
	ins[0] = api.Ins{}
	if !slices.Equal(two, want) {
		t.Errorf("%v, want %v", two, want)
	}
	ins[0] = whole[0]
	ins[4] = api.Ins{Op: -1}
	if code := trans.Make(b); !slices.Equal(code, want) {
		t.Errorf("with something else behind it: %v, want %v", code, want)
	}
	ins[4] = whole[4]
	if !slices.Equal(ins, whole) {
		t.Errorf("what was handed in became %v", ins)
	}
}
