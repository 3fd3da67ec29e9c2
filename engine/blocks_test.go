package engine

import (
	"slices"
	"testing"

	"ferrybridge/api"
	"ferrybridge/cache"
	"ferrybridge/decode"
	"ferrybridge/machine"
	"ferrybridge/trans"
)

// storing is a memory of blocks: each stores x6 at x5, makes x5 4 more, and goes on to the next one; the last one goes back to the first, and x5 to 0, so that some are written over.
func storing(t *testing.T, blocks int) []byte {
	t.Helper()
	var m []byte
	lay := func(i api.Ins) {
		w, e := decode.Encode(i)
		if e != api.OK {
			t.Fatalf("Encode(%v): %v", i, e)
		}
		m = append(m, byte(w), byte(w>>8), byte(w>>16), byte(w>>24))
	}
	for range blocks {
		lay(api.Ins{Op: api.SW, Rs1: 5, Rs2: 6})
		lay(api.Ins{Op: api.ADDI, Rd: 5, Rs1: 5, Imm: 4})
		lay(api.Ins{Op: api.JAL, Imm: 4})
	}
	lay(api.Ins{Op: api.ADDI, Rd: 5})
	lay(api.Ins{Op: api.JAL, Imm: int32(-len(m))})
	return m
}

// TestCodeOfTheKept: the small steps that stand in the map are those of the blocks that are kept, and no others, behind each pick.
func TestCodeOfTheKept(t *testing.T) {
	h := api.Hart{}
	fence, _ := decode.Encode(api.Ins{Op: api.FENCE})
	h.Regs[6] = fence
	for _, room := range []int{0, 1, 3, 10, api.MaxBlocks} {
		b, wrong := machine.NewBoard(api.Machine{Memory: storing(t, 100), Harts: []api.Hart{h, h}}, nil)
		c, none := cache.New(room)
		if wrong != api.OK || none != api.OK {
			t.Fatal(wrong, none)
		}
		e := engine{Board: b, kept: c, code: map[uint32][]api.Micro{}}
		for k := range 200 {
			e.turn(api.Pick{Hart: k % 2, Steps: 1 + k%11})
			if len(e.code) != len(e.kept.Blocks) {
				t.Fatalf("room %d, pick %d: small steps of %d blocks, but %d are kept", room, k, len(e.code), len(e.kept.Blocks))
			}
			for _, b := range e.kept.Blocks {
				if !slices.Equal(e.code[b.PC], trans.Make(b)) {
					t.Fatalf("room %d, pick %d: the small steps of %v are %v", room, k, b, e.code[b.PC])
				}
			}
		}
		if e.kept.Pushed == 0 && room < 10 || e.kept.Stale == 0 && room > 10 {
			t.Errorf("room %d: %d pushed out, %d stale", room, e.kept.Pushed, e.kept.Stale)
		}
	}
}
