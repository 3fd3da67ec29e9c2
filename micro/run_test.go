package micro_test

import (
	"bytes"
	"math"
	"slices"
	"strconv"
	"testing"

	"ferrybridge/api"
	"ferrybridge/hart"
	"ferrybridge/micro"
)

// In the tests' rows the instruction stands at place, in a memory of length bytes.
const (
	place  = 16
	length = 64
)

// lay answers a copy of a memory in which words stand from at on.
func lay(m []byte, at int, words ...uint32) []byte {
	out := bytes.Clone(m)
	for i, w := range words {
		for k := range 4 {
			out[at+4*i+k] = byte(w >> (8 * k))
		}
	}
	return out
}

// put answers a copy of a memory in which bytes stand from at on.
func put(m []byte, at int, b ...byte) []byte {
	out := bytes.Clone(m)
	copy(out[at:], b)
	return out
}

// data is a memory with numbers at 32 and behind it, and at its end.
func data() []byte {
	return lay(lay(make([]byte, length), 32, 0x84739281, 0x80000005), length-4, 0x7a6b9c8d)
}

// fresh is a hart that runs at place, with all registers told apart; x5 and x6 are a and b.
func fresh(a, b uint32) api.Hart {
	h := api.Hart{PC: place}
	for i := 1; i < 32; i++ {
		h.Regs[i] = 0xdead0000 + uint32(i)
	}
	h.Regs[5], h.Regs[6] = a, b
	return h
}

func held(h api.Hart, at uint32) api.Hart {
	h.Held, h.HeldAt = true, at
	return h
}

func trapped(h api.Hart, pc uint32, cause int) api.Hart {
	h.PC, h.State, h.Cause = pc, api.Trapped, cause
	return h
}

// at is the hart with another PC.
func at(h api.Hart, pc uint32) api.Hart {
	h.PC = pc
	return h
}

// set is the hart with another number in a register.
func set(h api.Hart, register int, w uint32) api.Hart {
	h.Regs[register] = w
	return h
}

func row(code ...api.Micro) []api.Micro { return code }

// begins is the small step that begins an instruction.
func begins(at uint32) api.Micro { return api.Micro{Op: api.MAt, N: at} }

func same(a, b api.Did) bool {
	return a.Hart == b.Hart && bytes.Equal(a.Memory, b.Memory) && slices.Equal(a.Out, b.Out) && a.Steps == b.Steps && slices.Equal(a.Stores, b.Stores)
}

// given is all that Run is handed.
type given struct {
	code   []api.Micro
	hart   api.Hart
	memory []byte
	own    api.Range
	steps  int
}

// run does it, and sees that what was handed in stays as it was.
func (g given) run(t *testing.T, name string) (api.Did, bool) {
	t.Helper()
	code, memory := slices.Clone(g.code), bytes.Clone(g.memory)
	d, ok := micro.Run(g.code, g.hart, g.memory, g.own, g.steps)
	if !slices.Equal(code, g.code) || !bytes.Equal(memory, g.memory) {
		t.Errorf("%s: what was handed in became %v, %v", name, g.code, g.memory)
	}
	return d, ok
}

// check holds all that Run answers against what is wanted.
func (g given) check(t *testing.T, name string, want api.Did) {
	t.Helper()
	d, ok := g.run(t, name)
	if !ok || !same(d, want) {
		t.Errorf("%s: %v: %v, %v, want %v", name, g.code, d, ok, want)
	}
	if !hart.May(d.Hart) {
		t.Errorf("%s: the hart %v may not be", name, d.Hart)
	}
}

// refused: an empty Did, and false.
func (g given) refused(t *testing.T, name string) {
	t.Helper()
	if d, ok := g.run(t, name); ok || !same(d, api.Did{}) {
		t.Errorf("%s: %v, %v", name, d, ok)
	}
}

// one is an instruction at place of these small steps, that may be done.
func one(h api.Hart, m []byte, code ...api.Micro) given {
	return given{code: append(row(begins(place)), code...), hart: h, memory: m, steps: 9}
}

// TestExample: G2, G3: the chapter's example, and its neighbours.
func TestExample(t *testing.T) {
	code := row(begins(8), api.Micro{Op: api.MSet, D: 5, N: 7})
	for _, pc := range []uint32{8, 0, ones} {
		h := api.Hart{PC: pc}
		given{code: code, hart: h, steps: 1}.check(t, "one step", api.Did{Hart: at(set(h, 5, 7), 12), Steps: 1})
		given{code: code, hart: h, steps: 2}.check(t, "two steps", api.Did{Hart: at(set(h, 5, 7), 12), Steps: 1})
		given{code: code, hart: h, steps: 0}.check(t, "no steps", api.Did{Hart: at(h, 8)})
		given{code: code[1:], hart: h, steps: 1}.check(t, "no MAt", api.Did{Hart: at(set(h, 5, 7), pc)})
		given{code: code[:1], hart: h, steps: 1}.check(t, "MAt alone", api.Did{Hart: at(h, 12), Steps: 1})
		given{hart: h, steps: 1}.check(t, "nothing", api.Did{Hart: h})
	}
}

// TestRefused: G2: one wrong thing at a time, with all else right, with small steps and without.
func TestRefused(t *testing.T) {
	right := one(fresh(32, 2), data(), api.Micro{Op: api.MSet, D: 5, N: 7})
	right.check(t, "nothing wrong", api.Did{Hart: at(set(right.hart, 5, 7), place+4), Memory: data(), Steps: 1})
	for name, change := range map[string]func(g *given){
		"an op that is none":     func(g *given) { g.code = row(begins(place), api.Micro{}) },
		"a field not named":      func(g *given) { g.code = row(begins(place), api.Micro{Op: api.MSet, A: 1}) },
		"a register beyond":      func(g *given) { g.code = row(begins(place), api.Micro{Op: api.MSet, D: 36}) },
		"a register below 0":     func(g *given) { g.code = row(begins(place), api.Micro{Op: api.MGoReg, A: -1}) },
		"behind the end":         func(g *given) { g.code = row(api.Micro{Op: api.MGo, N: 4}, api.Micro{Op: api.MAt, B: 1}) },
		"too many":               func(g *given) { g.code = slices.Repeat(row(begins(place)), api.MaxMicro+1) },
		"a memory too long":      func(g *given) { g.memory = make([]byte, api.MaxMemory+1) },
		"a memory much too long": func(g *given) { g.memory = make([]byte, 2*api.MaxMemory) },
		"steps -1":               func(g *given) { g.steps = -1 },
		"one step more":          func(g *given) { g.steps = api.MaxSteps + 1 },
		"the least steps":        func(g *given) { g.steps = math.MinInt },
		"the most steps":         func(g *given) { g.steps = math.MaxInt },
		"halted":                 func(g *given) { g.hart.State = api.Halted },
		"trapped":                func(g *given) { g.hart = trapped(g.hart, place, api.CauseLoad) },
		"register 0 is 1":        func(g *given) { g.hart.Regs[0] = 1 },
		"HeldAt, but not held":   func(g *given) { g.hart.HeldAt = 4 },
		"a state below":          func(g *given) { g.hart.State = -1 },
		"a state above":          func(g *given) { g.hart.State = 3 },
		"runs with a cause":      func(g *given) { g.hart.Cause = api.CauseFetch },
		"trapped without one":    func(g *given) { g.hart.State = api.Trapped },
		"a cause above":          func(g *given) { g.hart = trapped(g.hart, place, api.CauseBreak+1) },
	} {
		g := right
		change(&g)
		g.refused(t, name)
		if micro.May(g.code) {
			g.code = nil
			g.refused(t, name+", no small steps")
		}
		g.hart, g.memory, g.steps = api.Hart{State: 9}, make([]byte, api.MaxMemory+1), -1
		g.refused(t, name+", and all else wrong")
	}
}

// TestLimits: G2: the greatest memory, row and steps are not too great, and neither is 0.
func TestLimits(t *testing.T) {
	const last = api.MaxMemory - 4
	h := fresh(last, 77)
	g := one(h, make([]byte, api.MaxMemory), api.Micro{Op: api.MStore + api.SW, A: 5, B: 6})
	want := api.Did{Hart: at(h, place+4), Memory: lay(g.memory, last, 77), Steps: 1, Stores: []api.Range{{From: last, To: last + 4}}}
	g.check(t, "the last word", want)
	g.steps = api.MaxSteps
	g.check(t, "MaxSteps", want)
	g.steps = 0
	g.check(t, "steps 0", api.Did{Hart: h, Memory: g.memory})
	g = given{code: slices.Repeat(row(begins(place)), api.MaxMicro), hart: h, steps: api.MaxSteps}
	g.check(t, "MaxMicro", api.Did{Hart: at(h, place+4), Steps: api.MaxMicro})
	for steps := range api.MaxMicro {
		g.steps = steps
		g.check(t, strconv.Itoa(steps)+" steps", api.Did{Hart: h, Steps: steps})
	}
}

// TestRegisters: G2: MSet makes each register N, but for register 0; those above 31 are at first 0, and are the row's own.
func TestRegisters(t *testing.T) {
	h := fresh(32, 2)
	for d := range 36 {
		name := "register " + strconv.Itoa(d)
		for _, n := range []uint32{0, 1, 1 << 31, ones} {
			was, is := uint32(0), n
			want := h
			if d < 32 {
				was = h.Regs[d]
				want.Regs[d] = n
			}
			if d == 0 {
				want.Regs[0], is = 0, 0
			}
			g := one(h, nil, api.Micro{Op: api.MSet, D: d, N: n})
			g.check(t, name, api.Did{Hart: at(want, place+4), Steps: 1})
			copied := api.Micro{Op: api.MAluN + api.ADD, D: 7, A: d, N: 0}
			if d != 7 {
				one(h, nil, copied).check(t, name+" at first", api.Did{Hart: at(set(h, 7, was), place+4), Steps: 1})
				g.code = append(g.code, copied)
				g.check(t, name+" is read", api.Did{Hart: at(set(want, 7, is), place+4), Steps: 1})
			}
		}
	}
}

// TestOwnRegisters: G2: the four above 31 are told apart, keep what they are from one instruction to the next, and begin anew with each run.
func TestOwnRegisters(t *testing.T) {
	h := fresh(32, 2)
	var code []api.Micro
	for k := range 4 {
		code = append(code, begins(uint32(4*k)), api.Micro{Op: api.MSet, D: 32 + k, N: uint32(100 + k)})
	}
	for k := range 4 {
		code = append(code, begins(uint32(16+4*k)), api.Micro{Op: api.MAlu + api.ADD, D: 20 + k, A: 32 + k, B: 0})
	}
	want := at(h, 32)
	for k := range 4 {
		want.Regs[20+k] = uint32(100 + k)
	}
	given{code: code, hart: h, steps: 9}.check(t, "set and read", api.Did{Hart: want, Steps: 8})
	for k := range 4 {
		want.Regs[20+k] = 0
	}
	given{code: code[8:], hart: h, steps: 9}.check(t, "read anew", api.Did{Hart: want, Steps: 4})
}
