package block_test

import (
	"bytes"
	"slices"
	"strconv"
	"testing"

	"ferrybridge/api"
	"ferrybridge/block"
	"ferrybridge/decode"
)

const ones = uint32(1<<32 - 1)

// filler is an instruction that ends no block; each k has one of its own.
func filler(k int) api.Ins {
	return api.Ins{Op: api.ADDI, Rd: 1 + k%31, Rs1: k % 7, Imm: int32(k) - 20}
}

// fillers are so many of them, told apart.
func fillers(count int) []api.Ins {
	var row []api.Ins
	for k := range count {
		row = append(row, filler(k))
	}
	return row
}

// joined is a new list of a row and others behind it.
func joined(row []api.Ins, others ...api.Ins) []api.Ins {
	return append(slices.Clone(row), others...)
}

func encoded(t *testing.T, i api.Ins) uint32 {
	t.Helper()
	w, e := decode.Encode(i)
	if e != api.OK {
		t.Fatalf("Encode(%v): %v", i, e)
	}
	return w
}

// put appends words, the lowest byte of each first.
func put(m []byte, words ...uint32) []byte {
	for _, w := range words {
		m = append(m, byte(w), byte(w>>8), byte(w>>16), byte(w>>24))
	}
	return m
}

// memory is skip words that are no instructions, and a row behind them.
func memory(t *testing.T, skip int, row ...api.Ins) []byte {
	t.Helper()
	m := make([]byte, 4*skip)
	for _, i := range row {
		m = put(m, encoded(t, i))
	}
	return m
}

// check holds a block against what is wanted, with the memory as it was.
func check(t *testing.T, name string, m []byte, pc uint32, want []api.Ins) {
	t.Helper()
	was := bytes.Clone(m)
	b := block.Make(m, pc)
	if b.PC != pc || !slices.Equal(b.Ins, want) {
		t.Errorf("%s: at %d: %v, want %v", name, pc, b, want)
	}
	if !bytes.Equal(m, was) {
		t.Errorf("%s: the memory that was handed in became %v", name, m)
	}
}

// enders are the instructions that end a block, one of each.
func enders() []api.Ins {
	return []api.Ins{
		{Op: api.JAL, Rd: 1, Imm: 2048}, {Op: api.JALR, Rd: 1, Rs1: 2, Imm: -4},
		{Op: api.BEQ, Rs1: 3, Rs2: 4, Imm: 8}, {Op: api.BNE, Rs1: 3, Rs2: 4, Imm: -8},
		{Op: api.BLT, Rs1: 3, Rs2: 4, Imm: 4}, {Op: api.BGE, Rs1: 3, Rs2: 4, Imm: 2},
		{Op: api.BLTU, Rs1: 3, Rs2: 4, Imm: 4094}, {Op: api.BGEU, Rs1: 3, Rs2: 4, Imm: -4096},
		{Op: api.ECALL}, {Op: api.EBREAK},
	}
}

// others are the instructions that end none, one of each.
func others() []api.Ins {
	var row []api.Ins
	for op := api.LUI; op <= api.EBREAK; op++ {
		i := api.Ins{Op: op}
		if !slices.ContainsFunc(enders(), func(e api.Ins) bool { return e.Op == op }) {
			row = append(row, i)
		}
	}
	return row
}

// TestExample: F1: the chapter's example, and its neighbours.
func TestExample(t *testing.T) {
	check(t, "19 0 0 0", []byte{19, 0, 0, 0}, 0, []api.Ins{{Op: api.ADDI}})
	check(t, "19 0 0", []byte{19, 0, 0}, 0, nil)
	check(t, "19 0 0 0, twice", []byte{19, 0, 0, 0, 19, 0, 0, 0}, 0, []api.Ins{{Op: api.ADDI}, {Op: api.ADDI}})
	check(t, "19 0 0 0, twice", []byte{19, 0, 0, 0, 19, 0, 0, 0}, 4, []api.Ins{{Op: api.ADDI}})
	check(t, "115 0 0 0, 19 0 0 0", []byte{115, 0, 0, 0, 19, 0, 0, 0}, 0, []api.Ins{{Op: api.ECALL}})
}

// TestEnds: F1: a row ends with the first one that is JAL, JALR, BEQ to BGEU, ECALL or EBREAK, at once and behind others, whatever stands behind it.
func TestEnds(t *testing.T) {
	for _, e := range enders() {
		for _, ahead := range []int{0, 1, 2, 7, api.MaxBlock - 2, api.MaxBlock - 1} {
			name := "op " + strconv.Itoa(e.Op) + " behind " + strconv.Itoa(ahead)
			want := joined(fillers(ahead), e)
			check(t, name, memory(t, 0, want...), 0, want)
			check(t, name+", then another", memory(t, 3, joined(want, filler(30))...), 12, want)
			check(t, name+", then no instruction", put(memory(t, 1, want...), 0), 4, want)
			for _, last := range enders() {
				check(t, name+", then op "+strconv.Itoa(last.Op), memory(t, 2, joined(want, last, filler(30))...), 8, want)
			}
		}
	}
}

// TestGoesOn: F1: no other instruction ends a row.
func TestGoesOn(t *testing.T) {
	if len(others())+len(enders()) != api.EBREAK {
		t.Fatalf("%d and %d instructions", len(others()), len(enders()))
	}
	for k, i := range others() {
		want := []api.Ins{i, filler(k), {Op: api.EBREAK}}
		check(t, "op "+strconv.Itoa(i.Op), memory(t, 0, joined(want, filler(k))...), 0, want)
	}
	for from := 0; from+api.MaxBlock <= len(others()); from++ {
		check(t, "all others, from "+strconv.Itoa(from), memory(t, 0, others()...), uint32(4*from), others()[from:from+api.MaxBlock])
	}
}

// TestBranchBack: F1: a row is told as it stands, not as a hart goes through it.
func TestBranchBack(t *testing.T) {
	row := []api.Ins{filler(1), {Op: api.JAL, Imm: -4}, filler(2), {Op: api.BEQ, Imm: -12}}
	m := memory(t, 0, row...)
	check(t, "a jump back", m, 0, row[:2])
	check(t, "at the jump", m, 4, row[1:2])
	check(t, "behind the jump", m, 8, row[2:])
	check(t, "at the branch", m, 12, row[3:])
}

// wrongWords are words that are no instructions, one of each kind.
func wrongWords(t *testing.T) map[string]uint32 {
	t.Helper()
	return map[string]uint32{
		"0": 0, "all ones": ones, "2^31": 1 << 31,
		"a branch that is none":             99 | 2<<12,
		"a load that is none":               3 | 3<<12,
		"a shift that is none":              19 | 1<<12 | 1<<25,
		"JALR with a 1":                     103 | 1<<12,
		"ECALL with a register":             115 | 1<<7,
		"behind EBREAK":                     1048691 + 1<<20,
		"LRW with Rs2":                      encoded(t, api.Ins{Op: api.LRW, Rd: 1, Rs1: 2}) | 1<<20,
		"an atomic one that is none":        47 | 2<<12 | 31<<27,
		"ADD whose upper bits are too many": 51 | 3<<25,
		"ADDI without its lowest bit":       18,
	}
}

// TestWrongWord: F1: a row ends ahead of a word that is no instruction, at once and behind others.
func TestWrongWord(t *testing.T) {
	for name, w := range wrongWords(t) {
		for _, ahead := range []int{0, 1, 2, 9, api.MaxBlock - 1, api.MaxBlock} {
			row := fillers(ahead)
			check(t, name+" at the end", put(memory(t, 0, row...), w), 0, row)
			m := put(memory(t, 2, row...), w, encoded(t, filler(8)), encoded(t, api.Ins{Op: api.ECALL}))
			check(t, name, m, 8, row)
			check(t, name+", behind it", m, uint32(8+4*ahead+4), []api.Ins{filler(8), {Op: api.ECALL}})
		}
	}
}

// TestNoWord: F1: a row ends where the memory does, and where a part of a word is left; it has nothing at a pc that is no multiple of 4, or beyond the memory.
func TestNoWord(t *testing.T) {
	for _, count := range []int{0, 1, 2, 3, 9, api.MaxBlock - 1} {
		row := fillers(count)
		whole := memory(t, 0, row...)
		for part := range 4 {
			m := append(bytes.Clone(whole), put(nil, encoded(t, filler(9)))[:part]...)
			name := strconv.Itoa(count) + " words and " + strconv.Itoa(part) + " bytes"
			for pc := range uint32(len(m) + 12) {
				var want []api.Ins
				if pc%4 == 0 && int(pc) < 4*count {
					want = row[pc/4:]
				}
				check(t, name, m, pc, want)
			}
		}
	}
}

// TestOddPlaces: F1: at a pc that is no multiple of 4 is no instruction, also where its four bytes would be one.
func TestOddPlaces(t *testing.T) {
	for shift := 1; shift < 4; shift++ {
		m := put(make([]byte, shift), 19, 19, 115)
		check(t, "bytes that would be instructions", m, uint32(shift), nil)
		check(t, "bytes that would be instructions", m, uint32(shift+4), nil)
	}
}

// TestHighPlaces: F1: close to 2^32 - 1 is no instruction, and the row does not go round to 0; the PC is told all the same.
func TestHighPlaces(t *testing.T) {
	for _, m := range [][]byte{nil, {19, 0, 0, 0}, memory(t, 0, fillers(30)...), memory(t, 0, fillers(api.MaxMemory/4)...)} {
		for back := range uint32(80) {
			check(t, "high", m, ones-back, nil)
		}
		for bit := 12; bit < 32; bit++ {
			check(t, "a high bit", m, 1<<bit, nil)
			check(t, "a high bit, and 4", m, 1<<bit+4, nil)
		}
		check(t, "below 2^31", m, 1<<31-4, nil)
	}
}

// TestMost: F1: a row of one fewer than MaxBlock, of MaxBlock and of more, that ends with what ends one, with no instruction, or with the memory.
func TestMost(t *testing.T) {
	for count := api.MaxBlock - 2; count < 3*api.MaxBlock; count++ {
		name := strconv.Itoa(count)
		row := fillers(count)
		most := row[:min(count, api.MaxBlock)]
		check(t, name, memory(t, 0, row...), 0, most)
		check(t, name+" within", memory(t, 5, row...), 20, most)
		check(t, name+" ahead of no instruction", put(memory(t, 0, row...), 0), 0, most)
		for _, e := range enders() {
			ended := joined(row, e)
			check(t, name+" ahead of op "+strconv.Itoa(e.Op), memory(t, 0, ended...), 0, ended[:min(count+1, api.MaxBlock)])
		}
		for from := range count {
			check(t, name+" from "+strconv.Itoa(from), memory(t, 0, row...), uint32(4*from), row[from:min(count, from+api.MaxBlock)])
		}
	}
}

// TestLongest: F1: a memory of MaxMemory bytes has its blocks, up to the last word; one of more has an empty one, at each place, whose PC is 0.
func TestLongest(t *testing.T) {
	const words = api.MaxMemory / 4
	row := fillers(words)
	m := memory(t, 0, row...)
	for pc := range uint32(api.MaxMemory) {
		var want []api.Ins
		if pc%4 == 0 {
			want = row[pc/4 : min(pc/4+api.MaxBlock, words)]
		}
		check(t, "MaxMemory bytes", m, pc, want)
	}
	check(t, "one fewer, at its last word", m[:api.MaxMemory-1], api.MaxMemory-4, nil)
	for _, more := range []int{1, 2, 3, 4, 64, 1 << 16} {
		long := append(bytes.Clone(m), make([]byte, more)...)
		for _, pc := range []uint32{0, 1, 4, 64, api.MaxMemory - 4, api.MaxMemory, ones - 3, ones} {
			if b := block.Make(long, pc); b.PC != 0 || len(b.Ins) != 0 {
				t.Errorf("%d bytes more, at %d: %v", more, pc, b)
			}
		}
	}
}

// TestNotShared: P3: the memory is not kept, and no two blocks share their instructions, nor what lies behind them.
func TestNotShared(t *testing.T) {
	for _, count := range []int{0, 1, 5, api.MaxBlock, api.MaxBlock + 3} {
		row := fillers(count)
		m := memory(t, 0, row...)
		one, two := block.Make(m, 0), block.Make(m, 0)
		for k := range one.Ins {
			one.Ins[k] = api.Ins{Op: api.EBREAK}
		}
		_ = append(one.Ins, api.Ins{Op: api.EBREAK})
		check(t, "a block that was spoilt", m, 0, two.Ins)
		for k := range m {
			m[k] ^= 255
		}
		if want := row[:min(count, api.MaxBlock)]; !slices.Equal(two.Ins, want) {
			t.Errorf("%d words: %v, want %v", count, two.Ins, want)
		}
	}
}

// TestBehindLength: P3: what lies behind the memory's length is neither read nor written.
func TestBehindLength(t *testing.T) {
	row := fillers(8)
	whole := memory(t, 0, row...)
	was := bytes.Clone(whole)
	for length := range len(whole) {
		check(t, strconv.Itoa(length)+" bytes", whole[:length], 0, row[:length/4])
		check(t, strconv.Itoa(length)+" bytes, behind", whole[:length], uint32(length), nil)
	}
	long := memory(t, 0, fillers(api.MaxMemory/4+4)...)
	check(t, "MaxMemory bytes of more", long[:api.MaxMemory], api.MaxMemory-4, []api.Ins{filler(api.MaxMemory/4 - 1)})
	if !bytes.Equal(whole, was) {
		t.Errorf("what was handed in became %v", whole)
	}
}
