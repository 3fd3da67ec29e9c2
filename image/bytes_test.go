package image_test

import (
	"bytes"
	"slices"
	"testing"

	"ferrybridge/api"
)

// first and firstBytes: a hart that is Held and Trapped, with a number of four different bytes wherever there can be one, and its bytes, written out.
func first() api.Hart {
	return api.Hart{
		Regs: [32]uint32{
			0, 0x07060504, 0x0b0a0908, 0x0f0e0d0c, 0x13121110, 0x17161514, 0x1b1a1918, 0x1f1e1d1c,
			0x23222120, 0x27262524, 0x2b2a2928, 0x2f2e2d2c, 0x33323130, 0x37363534, 0x3b3a3938, 0x3f3e3d3c,
			0x83828180, 0x87868584, 0x8b8a8988, 0x8f8e8d8c, 0x93929190, 0x97969594, 0x9b9a9998, 0x9f9e9d9c,
			0xa3a2a1a0, 0xa7a6a5a4, 0xabaaa9a8, 0xafaeadac, 0xb3b2b1b0, 0xb7b6b5b4, 0xbbbab9b8, 0xbfbebdbc,
		},
		PC:     0xf4f3f2f1,
		Held:   true,
		HeldAt: 0xfcfbfaf9,
		State:  api.Trapped,
		Cause:  api.CauseBreak,
	}
}

func firstBytes() []byte {
	return []byte{
		0, 0, 0, 0, 4, 5, 6, 7, 8, 9, 10, 11, 12, 13, 14, 15,
		16, 17, 18, 19, 20, 21, 22, 23, 24, 25, 26, 27, 28, 29, 30, 31,
		32, 33, 34, 35, 36, 37, 38, 39, 40, 41, 42, 43, 44, 45, 46, 47,
		48, 49, 50, 51, 52, 53, 54, 55, 56, 57, 58, 59, 60, 61, 62, 63,
		128, 129, 130, 131, 132, 133, 134, 135, 136, 137, 138, 139, 140, 141, 142, 143,
		144, 145, 146, 147, 148, 149, 150, 151, 152, 153, 154, 155, 156, 157, 158, 159,
		160, 161, 162, 163, 164, 165, 166, 167, 168, 169, 170, 171, 172, 173, 174, 175,
		176, 177, 178, 179, 180, 181, 182, 183, 184, 185, 186, 187, 188, 189, 190, 191,
		241, 242, 243, 244,
		1, 0, 0, 0,
		249, 250, 251, 252,
		2, 0, 0, 0,
		6, 0, 0, 0,
	}
}

// plain and plainBytes: a hart with little in it: some registers, and State.
func plain(x1, x31, pc uint32, state int) api.Hart {
	h := api.Hart{PC: pc, State: state}
	h.Regs[1], h.Regs[31] = x1, x31
	return h
}

func plainBytes(x1, x31, pc [4]byte, state byte) []byte {
	b := make([]byte, whole)
	copy(b[4:], x1[:])
	copy(b[124:], x31[:])
	copy(b[128:], pc[:])
	b[140] = state
	return b
}

// TestByHand: M1: the bytes of machines with no memory, with some, with as much as may be, and with one to four harts, written out.
func TestByHand(t *testing.T) {
	second := plain(0x80000001, 0xdeadbeef, 0x00000ffc, api.Runs)
	secondBytes := plainBytes([4]byte{1, 0, 0, 0x80}, [4]byte{0xef, 0xbe, 0xad, 0xde}, [4]byte{0xfc, 0x0f, 0, 0}, 0)
	third := plain(0x01020304, ones, 0x12345678, api.Halted)
	thirdBytes := plainBytes([4]byte{4, 3, 2, 1}, [4]byte{255, 255, 255, 255}, [4]byte{0x78, 0x56, 0x34, 0x12}, 1)
	memory := filled(api.MaxMemory)
	for name, c := range map[string]struct {
		m    api.Machine
		want [][]byte
	}{
		"no memory, one hart":   {of(nil, first()), [][]byte{{0, 0, 0, 0}, {1, 0, 0, 0}, firstBytes()}},
		"no memory, two harts":  {of(nil, third, second), [][]byte{{0, 0, 0, 0}, {2, 0, 0, 0}, thirdBytes, secondBytes}},
		"one byte":              {of([]byte{9}, second), [][]byte{{1, 0, 0, 0}, {9}, {1, 0, 0, 0}, secondBytes}},
		"three bytes":           {of([]byte{255, 0, 7}, third), [][]byte{{3, 0, 0, 0}, {255, 0, 7}, {1, 0, 0, 0}, thirdBytes}},
		"five bytes, all harts": {of([]byte{5, 4, 3, 2, 1}, first(), second, third, first()), [][]byte{{5, 0, 0, 0}, {5, 4, 3, 2, 1}, {4, 0, 0, 0}, firstBytes(), secondBytes, thirdBytes, firstBytes()}},
		"300 bytes, three":      {of(memory[:300], second, second, first()), [][]byte{{44, 1, 0, 0}, memory[:300], {3, 0, 0, 0}, secondBytes, secondBytes, firstBytes()}},
		"all bytes but one":     {of(memory[1:], second), [][]byte{{255, 15, 0, 0}, memory[1:], {1, 0, 0, 0}, secondBytes}},
		"all bytes, one hart":   {of(memory, third), [][]byte{{0, 16, 0, 0}, memory, {1, 0, 0, 0}, thirdBytes}},
		"all bytes, all harts":  {of(memory, third, first(), first(), second), [][]byte{{0, 16, 0, 0}, memory, {4, 0, 0, 0}, thirdBytes, firstBytes(), firstBytes(), secondBytes}},
	} {
		checkBoth(t, name, c.m, bytes.Join(c.want, nil))
	}
}

// TestEachField: M1: of a hart that is all 0 but for one field: the bytes of that field, at its place, and no others; in each place of a hart.
func TestEachField(t *testing.T) {
	type row struct {
		h     api.Hart
		at    int
		bytes []byte
	}
	var rows []row
	for k := 1; k < 32; k++ {
		var h api.Hart
		h.Regs[k] = 0x8a6b4c2d
		rows = append(rows, row{h, 4 * k, []byte{0x2d, 0x4c, 0x6b, 0x8a}})
	}
	rows = append(rows,
		row{api.Hart{PC: 0x8a6b4c2d}, atPC, []byte{0x2d, 0x4c, 0x6b, 0x8a}},
		row{api.Hart{Held: true}, atHeld, []byte{1}},
		row{api.Hart{Held: true, HeldAt: 0x8a6b4c2d}, atHeld, []byte{1, 0, 0, 0, 0x2d, 0x4c, 0x6b, 0x8a}},
		row{api.Hart{Held: true, HeldAt: ones}, atHeld, []byte{1, 0, 0, 0, 255, 255, 255, 255}},
		row{api.Hart{State: api.Halted}, atState, []byte{1}},
	)
	for cause := api.CauseFetch; cause <= api.CauseBreak; cause++ {
		rows = append(rows, row{trapped(api.Hart{}, cause), atState, []byte{2, 0, 0, 0, byte(cause)}})
	}
	for _, r := range rows {
		for harts := 1; harts <= api.MaxHarts; harts++ {
			for k := range harts {
				m := of([]byte{1, 2, 3}, make([]api.Hart, harts)...)
				m.Harts[k] = r.h
				want := slices.Concat([]byte{3, 0, 0, 0, 1, 2, 3, byte(harts), 0, 0, 0}, make([]byte, harts*whole))
				copy(want[11+k*whole+r.at:], r.bytes)
				checkBoth(t, "one field", m, want)
			}
		}
	}
}

// TestEachSize: M1: each size of a memory that may be: it tells how many, then they; no bytes are added that 4 would divide.
func TestEachSize(t *testing.T) {
	memory := filled(api.MaxMemory)
	tail := slices.Concat([]byte{1, 0, 0, 0}, firstBytes())
	for size := range api.MaxMemory + 1 {
		want := slices.Concat([]byte{byte(size % 256), byte(size / 256), 0, 0}, memory[:size], tail)
		checkBoth(t, "each size", of(memory[:size], first()), want)
	}
}
