package mem_test

import (
	"bytes"
	"math"
	"math/bits"
	"testing"

	"ferrybridge/api"
	"ferrybridge/mem"
)

const ones = uint32(1<<32 - 1)

// loads and stores say how many bytes each op asks for, by the words of C1.
var (
	loads  = map[int]int{api.LB: 1, api.LBU: 1, api.LH: 2, api.LHU: 2, api.LW: 4}
	stores = map[int]int{api.SB: 1, api.SH: 2, api.SW: 4}
)

// places are the first ones of a small memory and those behind it, and those near 2^31 and 2^32, where a sum that is too narrow goes round.
func places() []uint32 {
	var all []uint32
	for i := range uint32(24) {
		all = append(all, i, 1<<16+i, 1<<31-12+i, ones-i)
	}
	return all
}

// memories are some of each length up to 13, with bytes on both sides of 128 at each place.
func memories() [][]byte {
	var all [][]byte
	for length := range 14 {
		for turn := range 4 {
			m := make([]byte, length)
			for i := range m {
				m[i] = byte([]int{0x81 + 3*i, 0x7f - 5*i, 77 * (i + 1), 255 - 128*(i%2)}[turn])
			}
			all = append(all, m)
		}
	}
	return all
}

// allowed tells, in numbers without such bounds, whether size bytes may be asked for at at.
func allowed(length, size int, at uint32) bool {
	return int64(at)%int64(size) == 0 && int64(at)+int64(size)-1 < int64(length)
}

// read tells what C1 says of Load, by adding up bytes.
func read(m []byte, op int, at uint32) (uint32, bool) {
	size := loads[op]
	if !allowed(len(m), size, at) {
		return 0, false
	}
	sum, worth := int64(0), int64(1)
	for _, b := range m[at : int(at)+size] {
		sum += int64(b) * worth
		worth *= 256
	}
	if (op == api.LB || op == api.LH) && sum >= worth/2 {
		sum += 1<<32 - worth
	}
	return uint32(sum), true
}

// written tells what C1 says of Store, by dividing w.
func written(m []byte, op int, at, w uint32) ([]byte, bool) {
	size := stores[op]
	if !allowed(len(m), size, at) {
		return nil, false
	}
	out := append([]byte(nil), m[:at]...)
	for range size {
		out = append(out, byte(w%256))
		w /= 256
	}
	return append(out, m[int(at)+size:]...), true
}

// TestLoadWritten: C1, with answers that are written out by hand.
func TestLoadWritten(t *testing.T) {
	m := []byte{255, 0, 0, 0, 127, 128, 1, 128, 0x78, 0x56, 0x34, 0x12}
	for _, c := range []struct {
		name string
		op   int
		at   uint32
		want uint32
		ok   bool
	}{
		{"LB, the chapter's example", api.LB, 0, ones, true},
		{"LB, highest bit not set", api.LB, 4, 127, true},
		{"LB, only the highest bit", api.LB, 5, ones - 127, true},
		{"LB of 0", api.LB, 1, 0, true},
		{"LB at the last place", api.LB, 11, 0x12, true},
		{"LB behind it", api.LB, 12, 0, false},
		{"LBU", api.LBU, 0, 255, true},
		{"LBU, only the highest bit", api.LBU, 5, 128, true},
		{"LBU at the last place", api.LBU, 11, 0x12, true},
		{"LBU behind it", api.LBU, 12, 0, false},
		{"LH, its lower byte high", api.LH, 0, 255, true},
		{"LH, highest bit set", api.LH, 4, 0xffff807f, true},
		{"LH, only highest and lowest", api.LH, 6, 0xffff8001, true},
		{"LH at the last place", api.LH, 10, 0x1234, true},
		{"LH that has room but is odd", api.LH, 9, 0, false},
		{"LH at 1", api.LH, 1, 0, false},
		{"LH with half of it there", api.LH, 11, 0, false},
		{"LH behind it", api.LH, 12, 0, false},
		{"LHU, highest bit set", api.LHU, 4, 0x807f, true},
		{"LHU", api.LHU, 8, 0x5678, true},
		{"LHU at 3", api.LHU, 3, 0, false},
		{"LHU behind it", api.LHU, 12, 0, false},
		{"LW", api.LW, 0, 255, true},
		{"LW, highest bit set", api.LW, 4, 0x8001807f, true},
		{"LW at the last place", api.LW, 8, 0x12345678, true},
		{"LW at 1", api.LW, 1, 0, false},
		{"LW at 2", api.LW, 2, 0, false},
		{"LW at 3", api.LW, 3, 0, false},
		{"LW behind it", api.LW, 12, 0, false},
		{"LW at the last multiple", api.LW, ones - 3, 0, false},
		{"LH at the last multiple", api.LH, ones - 1, 0, false},
		{"LB at the last number", api.LB, ones, 0, false},
		{"LW at the last number", api.LW, ones, 0, false},
	} {
		got, ok := mem.Load(m, c.op, c.at)
		if got != c.want || ok != c.ok {
			t.Errorf("%s: Load(%d, %d) = %#x, %v, want %#x, %v", c.name, c.op, c.at, got, ok, c.want, c.ok)
		}
	}
}

// TestStoreWritten: C1, with answers that are written out by hand.
func TestStoreWritten(t *testing.T) {
	m := []byte{1, 2, 3, 4, 5, 6, 7, 8}
	const w = 0x8192a3b4
	for _, c := range []struct {
		name string
		op   int
		at   uint32
		want []byte
	}{
		{"SB at 0", api.SB, 0, []byte{0xb4, 2, 3, 4, 5, 6, 7, 8}},
		{"SB at an odd place", api.SB, 3, []byte{1, 2, 3, 0xb4, 5, 6, 7, 8}},
		{"SB at the last place", api.SB, 7, []byte{1, 2, 3, 4, 5, 6, 7, 0xb4}},
		{"SB behind it", api.SB, 8, nil},
		{"SH at 0", api.SH, 0, []byte{0xb4, 0xa3, 3, 4, 5, 6, 7, 8}},
		{"SH at the last place", api.SH, 6, []byte{1, 2, 3, 4, 5, 6, 0xb4, 0xa3}},
		{"SH that has room but is odd", api.SH, 5, nil},
		{"SH with half of it there", api.SH, 7, nil},
		{"SH behind it", api.SH, 8, nil},
		{"SW at 0", api.SW, 0, []byte{0xb4, 0xa3, 0x92, 0x81, 5, 6, 7, 8}},
		{"SW at the last place", api.SW, 4, []byte{1, 2, 3, 4, 0xb4, 0xa3, 0x92, 0x81}},
		{"SW at 1", api.SW, 1, nil},
		{"SW at 2", api.SW, 2, nil},
		{"SW at 3", api.SW, 3, nil},
		{"SW behind it", api.SW, 8, nil},
		{"SW at the last multiple", api.SW, ones - 3, nil},
		{"SH at the last multiple", api.SH, ones - 1, nil},
		{"SB at the last number", api.SB, ones, nil},
		{"SW at the last number", api.SW, ones, nil},
	} {
		got, ok := mem.Store(m, c.op, c.at, w)
		if !bytes.Equal(got, c.want) || ok != (c.want != nil) || !ok && got != nil {
			t.Errorf("%s: Store(%d, %d) = %v, %v, want %v", c.name, c.op, c.at, got, ok, c.want)
		}
	}
}

// TestLoadReckoned: C1, each load at each place of each small memory and behind it.
func TestLoadReckoned(t *testing.T) {
	for _, m := range memories() {
		for op := range loads {
			for _, at := range places() {
				want, wantOk := read(m, op, at)
				if got, ok := mem.Load(m, op, at); got != want || ok != wantOk {
					t.Fatalf("Load(%v, %d, %d) = %d, %v, want %d, %v", m, op, at, got, ok, want, wantOk)
				}
			}
		}
	}
}

// TestStoreReckoned: C1, each store at each place of each small memory and behind it.
func TestStoreReckoned(t *testing.T) {
	for _, m := range memories() {
		was := bytes.Clone(m)
		for op := range stores {
			for _, at := range places() {
				for _, w := range []uint32{0, 1, 0x80, 0xff00, 0x10305, 0x12345678, 0xfedcba98, ones} {
					want, wantOk := written(m, op, at, w)
					got, ok := mem.Store(m, op, at, w)
					if !bytes.Equal(got, want) || ok != wantOk || !ok && got != nil {
						t.Fatalf("Store(%v, %d, %d, %d) = %v, %v, want %v, %v", m, op, at, w, got, ok, want, wantOk)
					}
					if !bytes.Equal(m, was) {
						t.Fatalf("Store(%v, %d, %d, %d) left %v", was, op, at, w, m)
					}
				}
			}
		}
	}
}

// TestReadBack: C1: what is stored at a place is loaded there.
func TestReadBack(t *testing.T) {
	pairs := []struct{ store, load int }{{api.SB, api.LB}, {api.SB, api.LBU}, {api.SH, api.LH}, {api.SH, api.LHU}, {api.SW, api.LW}}
	kept := map[int]uint32{api.LBU: 0xff, api.LHU: 0xffff, api.LW: ones}
	for _, w := range []uint32{0, 0x7f, 0x80, 0xff, 0x7fff, 0x8000, 0xffff, 1 << 31, 1<<31 - 1, ones} {
		for _, p := range pairs {
			m, ok := mem.Store(make([]byte, 16), p.store, 8, w)
			if !ok {
				t.Fatalf("Store(%d) at 8 of 16 bytes", p.store)
			}
			want := w & kept[p.load]
			switch p.load {
			case api.LB:
				want = uint32(int32(w<<24) >> 24)
			case api.LH:
				want = uint32(int32(w<<16) >> 16)
			}
			if got, ok := mem.Load(m, p.load, 8); got != want || !ok {
				t.Errorf("op %d of %#x stored, op %d: %#x, %v, want %#x", p.store, w, p.load, got, ok, want)
			}
		}
	}
}

// strangers are ops round about those of package api, without the own ones of a call, and the own ones with one high bit more: these show a call that reads only a part of op.
func strangers(own map[int]int) []int {
	all := []int{math.MinInt, math.MaxInt}
	for op := -100; op <= 700; op++ {
		if own[op] == 0 {
			all = append(all, op)
		}
	}
	for op := range own {
		for place := 10; place < bits.UintSize; place++ {
			all = append(all, op+1<<place)
		}
	}
	return all
}

// TestStrangeOps: C1: a load is no store, a store is no load, and nothing else is either; at places where each size would do, and at 1.
func TestStrangeOps(t *testing.T) {
	m := []byte{255, 254, 253, 252, 251, 250, 249, 248}
	for _, at := range []uint32{0, 1, 4, 8, ones} {
		for _, op := range strangers(loads) {
			if got, ok := mem.Load(m, op, at); got != 0 || ok {
				t.Errorf("Load(%d, %d) = %d, %v", op, at, got, ok)
			}
		}
		for _, op := range strangers(stores) {
			if got, ok := mem.Store(m, op, at, ones); got != nil || ok {
				t.Errorf("Store(%d, %d) = %v, %v", op, at, got, ok)
			}
		}
	}
}

// TestEmptyMemory: C1: of a memory without bytes none is there.
func TestEmptyMemory(t *testing.T) {
	for _, m := range [][]byte{nil, {}, make([]byte, 0, 64)} {
		for _, at := range places() {
			for op := range 61 {
				if got, ok := mem.Load(m, op, at); got != 0 || ok {
					t.Errorf("Load(none, %d, %d) = %d, %v", op, at, got, ok)
				}
				if got, ok := mem.Store(m, op, at, ones); got != nil || ok {
					t.Errorf("Store(none, %d, %d) = %v, %v", op, at, got, ok)
				}
			}
		}
	}
}

// TestLongMemory: C1 names no limit: bytes beyond MaxMemory, and beyond 16 bits, are there.
func TestLongMemory(t *testing.T) {
	for _, length := range []int{api.MaxMemory, api.MaxMemory + 4, 1<<16 + 4} {
		m := make([]byte, length)
		last := uint32(length - 4)
		copy(m[last:], []byte{1, 2, 3, 0x84})
		if got, ok := mem.Load(m, api.LW, last); got != 0x84030201 || !ok {
			t.Errorf("Load(%d bytes, LW, %d) = %#x, %v", length, last, got, ok)
		}
		if got, ok := mem.Load(m, api.LW, last+4); got != 0 || ok {
			t.Errorf("Load(%d bytes, LW, %d) = %#x, %v", length, last+4, got, ok)
		}
		got, ok := mem.Store(m, api.SW, last, ones)
		want := append(make([]byte, last), 255, 255, 255, 255)
		if !ok || !bytes.Equal(got, want) {
			t.Errorf("Store(%d bytes, SW, %d): %v", length, last, ok)
		}
	}
}

// TestStoreCopies: C1 and P3: the answer is a copy, also where w stands there already; neither it nor the memory that was handed in is changed by the other.
func TestStoreCopies(t *testing.T) {
	for op := range stores {
		for _, w := range []uint32{0, 0x04030201, ones} {
			m := []byte{1, 2, 3, 4, 5, 6, 7, 8}
			was := bytes.Clone(m)
			got, ok := mem.Store(m, op, 0, w)
			if !ok || !bytes.Equal(m, was) {
				t.Fatalf("Store(%d, 0, %d) = %v, left %v", op, w, ok, m)
			}
			for i := range got {
				got[i] += 100
			}
			if !bytes.Equal(m, was) {
				t.Errorf("Store(%d, 0, %d): the answer lies on the memory", op, w)
			}
			again, _ := mem.Store(m, op, 0, w)
			kept := bytes.Clone(again)
			for i := range m {
				m[i] += 100
			}
			if !bytes.Equal(again, kept) {
				t.Errorf("Store(%d, 0, %d): the memory lies on the answer", op, w)
			}
		}
	}
}

// TestBehindLength: P3: what lies behind the length is neither read nor written, nor handed on by the answer.
func TestBehindLength(t *testing.T) {
	whole := []byte{1, 2, 3, 4, 5, 6, 7, 8}
	was := bytes.Clone(whole)
	m := whole[:4]
	for op, size := range loads {
		if got, ok := mem.Load(m, op, 4); got != 0 || ok {
			t.Errorf("Load(%d) behind the length = %d, %v", op, got, ok)
		}
		if got, ok := mem.Load(whole[:size-1], op, 0); got != 0 || ok {
			t.Errorf("Load(%d) of %d bytes = %d, %v", op, size-1, got, ok)
		}
	}
	for op, size := range stores {
		if got, ok := mem.Store(m, op, 4, ones); got != nil || ok {
			t.Errorf("Store(%d) behind the length = %v, %v", op, got, ok)
		}
		if got, ok := mem.Store(whole[:size-1], op, 0, ones); got != nil || ok {
			t.Errorf("Store(%d) in %d bytes = %v, %v", op, size-1, got, ok)
		}
		got, ok := mem.Store(m, op, uint32(4-size), ones)
		if !ok || len(got) != 4 {
			t.Fatalf("Store(%d) at the last place = %v, %v", op, got, ok)
		}
		_ = append(got, 99)
		if !bytes.Equal(whole, was) {
			t.Fatalf("Store(%d) wrote behind the length: %v", op, whole)
		}
	}
}

// TestSameAgain: P3: what is answered hangs on the arguments alone.
func TestSameAgain(t *testing.T) {
	m := []byte{0x80, 0x81, 0x82, 0x83}
	one, _ := mem.Store(m, api.SH, 2, 7)
	mem.Store(m, api.SW, 0, ones)
	mem.Load(m, api.LW, 0)
	two, _ := mem.Store(m, api.SH, 2, 7)
	if !bytes.Equal(one, two) {
		t.Errorf("Store answers %v, then %v", one, two)
	}
	if &one[0] == &two[0] {
		t.Error("two answers are one memory")
	}
}
