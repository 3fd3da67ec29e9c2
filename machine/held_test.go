package machine_test

import (
	"bytes"
	"slices"
	"strconv"
	"testing"

	"ferrybridge/api"
)

// In these tests a hart that stores x6 at x5 begins at 0, in a memory of 256 bytes with something in each.
const storing = 256

// filled is that memory, with instructions from 0 on.
func filled(t *testing.T, program ...api.Ins) []byte {
	t.Helper()
	m := make([]byte, storing)
	for k := range m {
		m[k] = byte(37*k + 11)
	}
	return lay(t, m, 0, program...)
}

// storer is a hart with x5 and x6.
func storer(at, w uint32) api.Hart {
	h := full(1)
	h.PC, h.Regs[5], h.Regs[6] = 0, at, w
	return h
}

// kinds are instructions that store, by how many bytes.
var kinds = map[string]struct {
	op   int
	size uint32
}{
	"SB": {api.SB, 1}, "SH": {api.SH, 2}, "SW": {api.SW, 4}, "SCW": {api.SCW, 4},
	"AMOSWAP": {api.AMOSWAP, 4}, "AMOADD": {api.AMOADD, 4}, "AMOXOR": {api.AMOXOR, 4}, "AMOAND": {api.AMOAND, 4}, "AMOOR": {api.AMOOR, 4},
	"AMOMIN": {api.AMOMIN, 4}, "AMOMAX": {api.AMOMAX, 4}, "AMOMINU": {api.AMOMINU, 4}, "AMOMAXU": {api.AMOMAXU, 4},
}

// touches tells, byte by byte, whether a store meets a word.
func touches(at, size, word uint32) bool {
	for k := range int64(size) {
		byteAt := int64(at) + k
		for l := range int64(4) {
			if byteAt == int64(word)+l {
				return true
			}
		}
	}
	return false
}

// TestOthersLose: E2: each store, at each place about a word that another hart is Held at, also one that is no multiple of 4; of three others each one by its own word, whether it runs or not.
func TestOthersLose(t *testing.T) {
	const about = 128
	lost, kept := 0, 0
	for name, kind := range kinds {
		m := filled(t, api.Ins{Op: kind.op, Rs1: 5, Rs2: 6})
		for at := uint32(about - 12); at <= about+12; at += kind.size {
			for word := uint32(about - 6); word <= about+6; word++ {
				h := storer(at, 0x5a6b7c8d)
				if kind.op == api.SCW {
					h = held(h, at)
				}
				m := api.Machine{Memory: m, Harts: []api.Hart{held(full(2), word), h, held(halted(full(3)), word), held(trapped(full(4), api.CauseLoad), about)}}
				s := run(t, name, m, api.Pick{Hart: 1, Steps: 1})
				for k, h := range m.Harts {
					if k == 1 {
						continue
					}
					if touches(at, kind.size, h.HeldAt) {
						h.Held, h.HeldAt = false, 0
						lost++
					} else {
						kept++
					}
					if s.Machine.Harts[k] != h {
						t.Fatalf("%s at %d, hart %d held at %d: %v", name, at, k, m.Harts[k].HeldAt, s.Machine.Harts[k])
					}
				}
			}
		}
	}
	if lost < 100 || kept < 100 {
		t.Errorf("%d lost, %d kept", lost, kept)
	}
}

// TestEachByte: E2, written out: stores of each size that touch each byte of the word at 128, and those next to it.
func TestEachByte(t *testing.T) {
	for _, c := range []struct {
		op   int
		at   uint32
		kept bool
	}{
		{api.SB, 127, true}, {api.SB, 128, false}, {api.SB, 129, false}, {api.SB, 130, false}, {api.SB, 131, false}, {api.SB, 132, true},
		{api.SH, 126, true}, {api.SH, 128, false}, {api.SH, 130, false}, {api.SH, 132, true},
		{api.SW, 124, true}, {api.SW, 128, false}, {api.SW, 132, true},
		{api.SB, 0x70, true}, {api.SW, 0, true}, {api.SB, 255, true},
	} {
		m := filled(t, api.Ins{Op: c.op, Rs1: 5, Rs2: 6})
		other := held(full(2), 128)
		s := run(t, "each byte", api.Machine{Memory: m, Harts: []api.Hart{storer(c.at, 9), other}}, api.Pick{Hart: 0, Steps: 1})
		if !c.kept {
			other.Held, other.HeldAt = false, 0
		}
		if s.Machine.Harts[1] != other {
			t.Errorf("op %d at %d: %v", c.op, c.at, s.Machine.Harts[1])
		}
	}
}

// TestAllTheSame: E2: a store of what stands there already is one, too.
func TestAllTheSame(t *testing.T) {
	for name, op := range map[string]int{"SB": api.SB, "SH": api.SH, "SW": api.SW, "AMOADD of 0": api.AMOADD, "AMOOR of 0": api.AMOOR} {
		m := filled(t, api.Ins{Op: op, Rs1: 5, Rs2: 6})
		put(m, 128, 0)
		s := run(t, name, api.Machine{Memory: m, Harts: []api.Hart{held(full(2), 128), storer(128, 0)}}, api.Pick{Hart: 1, Steps: 1})
		if h := s.Machine.Harts[0]; h.Held || h.HeldAt != 0 || !bytes.Equal(s.Machine.Memory, m) {
			t.Errorf("%s: %v", name, h)
		}
	}
}

// TestNothingStored: E2: what does not store makes no one lose: loads, LRW, an SCW that is not met, stores that trap.
func TestNothingStored(t *testing.T) {
	for name, c := range map[string]struct {
		i     api.Ins
		at    uint32
		state int
	}{
		"LW":                    {api.Ins{Op: api.LW, Rd: 7, Rs1: 5}, 128, api.Runs},
		"LB":                    {api.Ins{Op: api.LB, Rd: 7, Rs1: 5, Imm: 3}, 128, api.Runs},
		"LRW":                   {api.Ins{Op: api.LRW, Rd: 7, Rs1: 5}, 128, api.Runs},
		"SCW, not held":         {api.Ins{Op: api.SCW, Rd: 7, Rs1: 5, Rs2: 6}, 128, api.Runs},
		"SCW that traps":        {api.Ins{Op: api.SCW, Rd: 7, Rs1: 5, Rs2: 6}, 130, api.Trapped},
		"AMOADD that traps":     {api.Ins{Op: api.AMOADD, Rd: 7, Rs1: 5, Rs2: 6}, 129, api.Trapped},
		"SW that traps":         {api.Ins{Op: api.SW, Rs1: 5, Rs2: 6}, 129, api.Trapped},
		"SH that traps":         {api.Ins{Op: api.SH, Rs1: 5, Rs2: 6}, 131, api.Trapped},
		"SW behind the memory":  {api.Ins{Op: api.SW, Rs1: 5, Rs2: 6}, storing, api.Trapped},
		"SB behind the memory":  {api.Ins{Op: api.SB, Rs1: 5, Rs2: 6}, storing, api.Trapped},
		"SB at the last number": {api.Ins{Op: api.SB, Rs1: 5, Rs2: 6}, ones, api.Trapped},
		"FENCE":                 {api.Ins{Op: api.FENCE}, 128, api.Runs},
		"EBREAK":                {api.Ins{Op: api.EBREAK}, 128, api.Trapped},
	} {
		m := filled(t, c.i)
		others := []api.Hart{held(full(2), 128), held(full(3), storing-2), held(full(4), ones-1)}
		s := run(t, name, api.Machine{Memory: m, Harts: append([]api.Hart{storer(c.at, 9)}, others...)}, api.Pick{Hart: 0, Steps: 1})
		if !slices.Equal(s.Machine.Harts[1:], others) || !bytes.Equal(s.Machine.Memory, m) {
			t.Errorf("%s: %v", name, s.Machine.Harts[1:])
		}
		if s.Machine.Harts[0].State != c.state {
			t.Errorf("%s: %v", name, s.Machine.Harts[0])
		}
	}
}

// TestOwnStays: E2: a hart's own stores leave its own reservation, by whatever number it goes; its own SCW ends it.
func TestOwnStays(t *testing.T) {
	for name, kind := range kinds {
		m := filled(t, api.Ins{Op: kind.op, Rs1: 5, Rs2: 6})
		for number := range api.MaxHarts {
			for at := uint32(128); at < 132; at += kind.size {
				harts := []api.Hart{full(2), full(3), full(4), full(5)}
				harts[number] = held(storer(at, 77), 128)
				want := slices.Clone(harts)
				want[number].PC = 4
				if kind.op == api.SCW {
					want[number].Held, want[number].HeldAt = false, 0
				}
				s := run(t, name, api.Machine{Memory: m, Harts: harts}, api.Pick{Hart: number, Steps: 1})
				if !slices.Equal(s.Machine.Harts, want) {
					t.Errorf("%s at %d by hart %d: %v", name, at, number, s.Machine.Harts[number])
				}
			}
		}
	}
}

// TestNearTheEnd: E2: the bytes of a word do not go round behind 2^32 - 1, so that no store in low bytes meets one that is held there.
func TestNearTheEnd(t *testing.T) {
	for name, kind := range kinds {
		for _, at := range []uint32{0, kind.size, 4, 252} {
			for _, word := range []uint32{ones, ones - 1, ones - 2, ones - 3, ones - 4, ones - 5, 1 << 31, 1<<31 + 128, 1 << 16, 1 << 8} {
				m := filled(t)
				m = lay(t, m, 64, api.Ins{Op: kind.op, Rs1: 5, Rs2: 6})
				h := storer(at, 1)
				h.PC = 64
				if kind.op == api.SCW {
					h = held(h, at)
				}
				other := held(full(2), word)
				s := run(t, name, api.Machine{Memory: m, Harts: []api.Hart{h, other}}, api.Pick{Hart: 0, Steps: 1})
				if s.Machine.Harts[1] != other || s.Machine.Harts[0].PC != 68 {
					t.Errorf("%s at %d, held at %d: %v", name, at, word, s.Machine.Harts)
				}
			}
		}
	}
}

// TestMemorysEnd: E2: a word that begins in the memory and ends behind it is met by a store in the bytes that are there.
func TestMemorysEnd(t *testing.T) {
	for word := uint32(storing - 5); word < storing+3; word++ {
		m := filled(t, api.Ins{Op: api.SB, Rs1: 5, Rs2: 6})
		s := run(t, "the end", api.Machine{Memory: m, Harts: []api.Hart{storer(storing-1, 1), held(full(2), word)}}, api.Pick{Hart: 0, Steps: 1})
		want := word == storing-5 || word >= storing
		if got := s.Machine.Harts[1]; got.Held != want {
			t.Errorf("held at %d: %v", word, got)
		}
	}
}

// TestWithinAPick: E2: each store of a pick counts, also with others, a trap or a halt behind it; those that are ahead of the pick's end alone.
func TestWithinAPick(t *testing.T) {
	m := filled(t,
		api.Ins{Op: api.SB, Rs1: 5, Rs2: 6, Imm: 3}, api.Ins{Op: api.SW, Rs1: 5, Rs2: 6, Imm: 64}, api.Ins{Op: api.FENCE},
		api.Ins{Op: api.SH, Rs1: 5, Rs2: 6, Imm: 32}, api.Ins{Op: api.EBREAK}, api.Ins{Op: api.SW, Rs1: 5, Rs2: 6, Imm: 16})
	for steps, want := range [][3]bool{{true, true, true}, {false, true, true}, {false, true, true}, {false, true, true}, {false, false, true}, {false, false, true}, {false, false, true}} {
		harts := []api.Hart{storer(128, 1), held(full(2), 128), held(full(3), 158), held(full(4), 144)}
		s := run(t, "within a pick", api.Machine{Memory: m, Harts: harts}, api.Pick{Hart: 0, Steps: steps})
		for k, held := range want {
			if s.Machine.Harts[k+1].Held != held {
				t.Errorf("%d steps: hart %d is %v", steps, k+1, s.Machine.Harts[k+1])
			}
		}
	}
}

// TestReservedInTurn: E2: LRW by one hart, something by another one, SCW by the first: met, if the other one did not store there.
func TestReservedInTurn(t *testing.T) {
	for name, c := range map[string]struct {
		i   api.Ins
		met bool
	}{
		"FENCE":            {api.Ins{Op: api.FENCE}, true},
		"LW there":         {api.Ins{Op: api.LW, Rd: 7, Rs1: 5}, true},
		"LRW there":        {api.Ins{Op: api.LRW, Rd: 7, Rs1: 5}, true},
		"SCW, not held":    {api.Ins{Op: api.SCW, Rd: 7, Rs1: 5, Rs2: 6}, true},
		"SB there":         {api.Ins{Op: api.SB, Rs1: 5, Rs2: 6}, false},
		"SB, its last":     {api.Ins{Op: api.SB, Rs1: 5, Rs2: 6, Imm: 3}, false},
		"SB behind it":     {api.Ins{Op: api.SB, Rs1: 5, Rs2: 6, Imm: 4}, true},
		"SB ahead of it":   {api.Ins{Op: api.SB, Rs1: 5, Rs2: 6, Imm: -1}, true},
		"SH there":         {api.Ins{Op: api.SH, Rs1: 5, Rs2: 6, Imm: 2}, false},
		"SH behind it":     {api.Ins{Op: api.SH, Rs1: 5, Rs2: 6, Imm: 4}, true},
		"SW there":         {api.Ins{Op: api.SW, Rs1: 5, Rs2: 6}, false},
		"SW behind it":     {api.Ins{Op: api.SW, Rs1: 5, Rs2: 6, Imm: 4}, true},
		"AMOMAXU there":    {api.Ins{Op: api.AMOMAXU, Rs1: 5, Rs2: 6}, false},
		"AMOADD elsewhere": {api.Ins{Op: api.AMOADD, Rs1: 8, Rs2: 6}, true},
	} {
		m := filled(t, api.Ins{Op: api.LRW, Rd: 9, Rs1: 5}, api.Ins{Op: api.SCW, Rd: 9, Rs1: 5, Rs2: 6})
		m = lay(t, m, 64, c.i)
		one, two := storer(128, 0xaaaa), storer(128, 0xbbbb)
		two.PC, two.Regs[8] = 64, 140
		s := run(t, name, api.Machine{Memory: m, Harts: []api.Hart{one, two}}, api.Pick{Hart: 0, Steps: 1}, api.Pick{Hart: 1, Steps: 1}, api.Pick{Hart: 0, Steps: 1})
		h := s.Machine.Harts[0]
		if met := h.Regs[9] == 0; met != c.met || h.Regs[9] > 1 || h.Held || met != (wordAt(s.Machine.Memory, 128) == 0xaaaa) {
			t.Errorf("%s: %v", name, h)
		}
	}
}

// TestFirstConditional: E2: of harts that are all Held at a word, by their LRWs, the first one whose SCW comes stores, and no other.
func TestFirstConditional(t *testing.T) {
	m := filled(t, api.Ins{Op: api.LRW, Rd: 9, Rs1: 5}, api.Ins{Op: api.SCW, Rd: 9, Rs1: 5, Rs2: 6})
	for first := range api.MaxHarts {
		var harts []api.Hart
		var script []api.Pick
		for k := range api.MaxHarts {
			harts = append(harts, storer(128, 1000+uint32(k)))
			script = append(script, api.Pick{Hart: k, Steps: 1})
		}
		all := run(t, "all are held", api.Machine{Memory: m, Harts: harts}, script...)
		for k, h := range all.Machine.Harts {
			if !h.Held || h.HeldAt != 128 {
				t.Errorf("hart %d is %v", k, h)
			}
		}
		for k := range api.MaxHarts {
			script = append(script, api.Pick{Hart: (first + k) % api.MaxHarts, Steps: 1})
		}
		s := run(t, "all try", api.Machine{Memory: m, Harts: harts}, script...)
		for k, h := range s.Machine.Harts {
			if met := h.Regs[9] == 0; met != (k == first) || h.Regs[9] > 1 || h.Held || h.HeldAt != 0 {
				t.Errorf("hart %s first: hart %d is %v", strconv.Itoa(first), k, h)
			}
		}
		if wordAt(s.Machine.Memory, 128) != 1000+uint32(first) {
			t.Errorf("hart %d first: %d", first, wordAt(s.Machine.Memory, 128))
		}
	}
}
