package hart_test

import (
	"bytes"
	"math"
	"slices"
	"testing"

	"ferrybridge/api"
	"ferrybridge/decode"
	"ferrybridge/hart"
)

const ones = uint32(1<<32 - 1)

// In the tests' programs the instruction stands at place, in a memory of length bytes; x5 and x6 are read, x7 is Rd.
const (
	place  = 16
	length = 64
)

// lay answers a copy of a memory in which words stand from at on.
func lay(m []byte, at int, words ...uint32) []byte {
	out := bytes.Clone(m)
	for i, w := range words {
		for k := range 4 {
			out[at+4*i+k] = byte(w >> (8 * k))
		}
	}
	return out
}

func encoded(t *testing.T, i api.Ins) uint32 {
	t.Helper()
	w, e := decode.Encode(i)
	if e != api.OK {
		t.Fatalf("Encode(%v): %v", i, e)
	}
	return w
}

// data is a memory with numbers at 32 and behind it, and at its end.
func data() []byte {
	return lay(lay(make([]byte, length), 32, 0x84739281, 0x80000005), length-4, 0x7a6b9c8d)
}

// runner is a hart that runs at place, with all registers told apart.
func runner(a, b uint32) api.Hart {
	h := api.Hart{PC: place}
	for i := 1; i < 32; i++ {
		h.Regs[i] = 0xdead0000 + uint32(i)
	}
	h.Regs[5], h.Regs[6] = a, b
	return h
}

func held(h api.Hart, at uint32) api.Hart {
	h.Held, h.HeldAt = true, at
	return h
}

func trapped(h api.Hart, cause int) api.Hart {
	h.State, h.Cause = api.Trapped, cause
	return h
}

// check does a step, and holds all that it answers against what is wanted.
func check(t *testing.T, name string, h api.Hart, m []byte, want api.Hart, wantM []byte, wantOut ...uint32) {
	t.Helper()
	was := bytes.Clone(m)
	got, gotM, out, ok := hart.Step(h, m)
	if !ok || got != want {
		t.Errorf("%s: hart %v, %v, want %v", name, got, ok, want)
	}
	if !bytes.Equal(gotM, wantM) {
		t.Errorf("%s: memory %v, want %v", name, gotM, wantM)
	}
	if !slices.Equal(out, wantOut) {
		t.Errorf("%s: out %v, want %v", name, out, wantOut)
	}
	if !bytes.Equal(m, was) {
		t.Errorf("%s: the memory that was handed in became %v", name, m)
	}
	if !hart.May(got) {
		t.Errorf("%s: %v may not be", name, got)
	}
}

// checkRefused: an empty hart, no bytes, nothing that comes out, false.
func checkRefused(t *testing.T, name string, h api.Hart, m []byte) {
	t.Helper()
	got, gotM, out, ok := hart.Step(h, m)
	if got != (api.Hart{}) || len(gotM) != 0 || len(out) != 0 || ok {
		t.Errorf("%s: %v, %d bytes, %v, %v", name, got, len(gotM), out, ok)
	}
	if _, ok := hart.NewCore(h, m); ok {
		t.Errorf("%s: there is a core of it", name)
	}
}

// TestMay: D1, with harts that may be, and one of each kind that may not.
func TestMay(t *testing.T) {
	full := runner(ones, 1<<31)
	for _, c := range []struct {
		name   string
		change func(h *api.Hart)
		want   bool
	}{
		{"runs", func(h *api.Hart) {}, true},
		{"halted", func(h *api.Hart) { h.State = api.Halted }, true},
		{"trapped, first cause", func(h *api.Hart) { h.State, h.Cause = api.Trapped, api.CauseFetch }, true},
		{"trapped, last cause", func(h *api.Hart) { h.State, h.Cause = api.Trapped, api.CauseBreak }, true},
		{"held at 0", func(h *api.Hart) { h.Held = true }, true},
		{"held at an odd place", func(h *api.Hart) { h.Held, h.HeldAt = true, 3 }, true},
		{"held at the last place", func(h *api.Hart) { h.Held, h.HeldAt = true, ones }, true},
		{"an odd PC", func(h *api.Hart) { h.PC = ones }, true},
		{"register 0 is 1", func(h *api.Hart) { h.Regs[0] = 1 }, false},
		{"register 0 is 2^31", func(h *api.Hart) { h.Regs[0] = 1 << 31 }, false},
		{"HeldAt, but not held", func(h *api.Hart) { h.HeldAt = 4 }, false},
		{"a high HeldAt, but not held", func(h *api.Hart) { h.HeldAt = 1 << 31 }, false},
		{"a state below", func(h *api.Hart) { h.State = api.Runs - 1 }, false},
		{"a state above", func(h *api.Hart) { h.State = api.Trapped + 1 }, false},
		{"a state above, with a cause", func(h *api.Hart) { h.State, h.Cause = api.Trapped+1, api.CauseWord }, false},
		{"the least state", func(h *api.Hart) { h.State = math.MinInt }, false},
		{"the greatest state", func(h *api.Hart) { h.State = math.MaxInt }, false},
		{"runs with a cause", func(h *api.Hart) { h.Cause = api.CauseFetch }, false},
		{"runs with a cause below 0", func(h *api.Hart) { h.Cause = -1 }, false},
		{"halted with a cause", func(h *api.Hart) { h.State, h.Cause = api.Halted, api.CauseBreak }, false},
		{"trapped without a cause", func(h *api.Hart) { h.State = api.Trapped }, false},
		{"trapped, a cause below 0", func(h *api.Hart) { h.State, h.Cause = api.Trapped, -1 }, false},
		{"trapped, a cause above", func(h *api.Hart) { h.State, h.Cause = api.Trapped, api.CauseBreak+1 }, false},
		{"trapped, the least cause", func(h *api.Hart) { h.State, h.Cause = api.Trapped, math.MinInt }, false},
		{"trapped, the greatest cause", func(h *api.Hart) { h.State, h.Cause = api.Trapped, math.MaxInt }, false},
	} {
		for _, h := range []api.Hart{{}, full} {
			c.change(&h)
			if got := hart.May(h); got != c.want {
				t.Errorf("%s: May(%v) = %v", c.name, h, got)
			}
		}
	}
}

// TestMayReckoned: D1, all small states and causes, with each other field right and wrong.
func TestMayReckoned(t *testing.T) {
	for state := -3; state <= 6; state++ {
		for cause := -3; cause <= 10; cause++ {
			for mix := range 8 {
				h := api.Hart{State: state, Cause: cause, Held: mix&1 != 0}
				h.HeldAt = uint32(mix & 2)
				h.Regs[0] = uint32(mix & 4)
				wrong := mix&4 != 0 || mix&3 == 2 || state < 0 || state > 2
				wrong = wrong || state == 2 && (cause < 1 || cause > 6) || state != 2 && cause != 0
				if hart.May(h) == wrong {
					t.Errorf("May(%v) = %v", h, !wrong)
				}
				if wrong || state != 0 {
					checkRefused(t, "may not be, or does not run", h, lay(data(), 0, 19))
				}
			}
		}
	}
}

// TestRefused: D1: what Step does not do, one wrong thing at a time and all together, on a memory whose word is an instruction.
func TestRefused(t *testing.T) {
	m := lay(data(), place, 19)
	for name, change := range map[string]func(h *api.Hart){
		"halted":         func(h *api.Hart) { h.State = api.Halted },
		"trapped":        func(h *api.Hart) { *h = trapped(*h, api.CauseLoad) },
		"register 0":     func(h *api.Hart) { h.Regs[0] = 1 },
		"HeldAt":         func(h *api.Hart) { h.HeldAt = 1 },
		"state":          func(h *api.Hart) { h.State = 3 },
		"state below 0":  func(h *api.Hart) { h.State = -1 },
		"cause":          func(h *api.Hart) { h.Cause = api.CauseFetch },
		"trapped of 0":   func(h *api.Hart) { h.State = api.Trapped },
		"halted, cause":  func(h *api.Hart) { h.State, h.Cause = api.Halted, 1 },
		"all that is so": func(h *api.Hart) { h.State, h.Cause, h.Regs[0], h.HeldAt = 9, 9, 9, 9 },
	} {
		h := runner(1, 2)
		change(&h)
		checkRefused(t, name, h, m)
		checkRefused(t, name+", no memory", h, nil)
		checkRefused(t, name+", a long memory", h, make([]byte, api.MaxMemory+1))
	}
	for _, n := range []int{1, 2, 3, 4, api.MaxMemory, 1 << 16} {
		checkRefused(t, "a long memory", runner(1, 2), lay(make([]byte, api.MaxMemory+n), place, 19))
	}
}

// TestLongestMemory: D1: a memory of MaxMemory bytes is not too long: its last word is done, read and stored in.
func TestLongestMemory(t *testing.T) {
	const last = api.MaxMemory - 4
	h := runner(last, 77)
	h.PC = last
	want := h
	want.PC = api.MaxMemory
	m := lay(make([]byte, api.MaxMemory), last, encoded(t, api.Ins{Op: api.SW, Rs1: 5, Rs2: 6}))
	check(t, "SW at the last word", h, m, want, lay(m, last, 77))
	check(t, "behind it", want, m, trapped(want, api.CauseFetch), m)
}
