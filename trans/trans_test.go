package trans_test

import (
	"bytes"
	"slices"
	"strconv"
	"testing"

	"ferrybridge/api"
	"ferrybridge/block"
	"ferrybridge/decode"
	"ferrybridge/hart"
	"ferrybridge/micro"
	"ferrybridge/trans"
)

const ones = uint32(1<<32 - 1)

// In the tests' memories of length bytes the block begins at place, and numbers stand at 96 and behind it, and at the end.
const (
	place  = 16
	length = 128
)

func encoded(t *testing.T, i api.Ins) uint32 {
	t.Helper()
	w, e := decode.Encode(i)
	if e != api.OK {
		t.Fatalf("Encode(%v): %v", i, e)
	}
	return w
}

// lay answers a copy of a memory in which words stand from at on.
func lay(m []byte, at int, words ...uint32) []byte {
	out := bytes.Clone(m)
	for i, w := range words {
		for k := range 4 {
			out[at+4*i+k] = byte(w >> (8 * k))
		}
	}
	return out
}

// data is a memory without instructions.
func data() []byte {
	return lay(lay(make([]byte, length), 96, 0x84739281, 0x80000005), length-4, 0x7a6b9c8d)
}

// program is data with instructions from place on.
func program(t *testing.T, row ...api.Ins) []byte {
	t.Helper()
	return laid(t, data(), place, row...)
}

// laid answers a copy of a memory in which instructions stand from at on.
func laid(t *testing.T, m []byte, at int, row ...api.Ins) []byte {
	t.Helper()
	for k, i := range row {
		m = lay(m, at+4*k, encoded(t, i))
	}
	return m
}

// fresh is a hart that runs at place, with all registers told apart; x5 and x6 are a and b.
func fresh(a, b uint32) api.Hart {
	h := api.Hart{PC: place}
	for i := 1; i < 32; i++ {
		h.Regs[i] = 0xdead0000 + uint32(i)
	}
	h.Regs[5], h.Regs[6] = a, b
	return h
}

func held(h api.Hart, at uint32) api.Hart {
	h.Held, h.HeldAt = true, at
	return h
}

func trapped(h api.Hart, cause int) api.Hart {
	h.State, h.Cause = api.Trapped, cause
	return h
}

// at is the hart with another PC.
func at(h api.Hart, pc uint32) api.Hart {
	h.PC = pc
	return h
}

// set is the hart with another number in a register; register 0 stays 0.
func set(h api.Hart, register int, w uint32) api.Hart {
	if register != 0 {
		h.Regs[register] = w
	}
	return h
}

// after is an instruction that shows that it was done: x8 becomes 88.
func after() api.Ins { return api.Ins{Op: api.ADDI, Rd: 8, Imm: 88} }

func same(a, b api.Did) bool {
	return a.Hart == b.Hart && bytes.Equal(a.Memory, b.Memory) && slices.Equal(a.Out, b.Out) && a.Steps == b.Steps && slices.Equal(a.Stores, b.Stores)
}

// small is Make of a block, with what H1 says of one of some memory, and what P3 says of all.
func small(t *testing.T, name string, b api.Block) []api.Micro {
	t.Helper()
	ins := slices.Clone(b.Ins)
	code := trans.Make(b)
	if !slices.Equal(b.Ins, ins) {
		t.Errorf("%s: the block that was handed in became %v", name, b)
	}
	if !micro.May(code) || len(code) > 12*len(b.Ins)+1 {
		t.Errorf("%s: %d small steps of %v: %v", name, len(code), b, code)
	}
	return code
}

// given is what H2 gives.
type given struct {
	hart   api.Hart
	memory []byte
	steps  int
}

// run does the small steps of the block at the hart's PC.
func (g given) run(t *testing.T, name string) api.Did {
	t.Helper()
	b := block.Make(g.memory, g.hart.PC)
	if len(b.Ins) == 0 {
		t.Fatalf("%s: no block at %d", name, g.hart.PC)
	}
	own := api.Range{From: b.PC, To: b.PC + 4*uint32(len(b.Ins))}
	d, ok := micro.Run(small(t, name, b), g.hart, g.memory, own, g.steps)
	if !ok {
		t.Errorf("%s: the small steps of %v can't be done", name, b)
	}
	return d
}

// check holds what the small steps do against what is wanted, and that against what hart.Step does.
func (g given) check(t *testing.T, name string, want api.Did) {
	t.Helper()
	if d := g.run(t, name); !same(d, want) {
		t.Errorf("%s: %v, want %v", name, d, want)
	}
	if d := stepped(t, g); !same(d, want) {
		t.Errorf("%s: by steps %v, but what was wanted is %v", name, d, want)
	}
}

// alike holds what the small steps do against what hart.Step does.
func (g given) alike(t *testing.T, name string) api.Did {
	t.Helper()
	d, want := g.run(t, name), stepped(t, g)
	if !same(d, want) {
		t.Errorf("%s: %v, %d steps, at %d: %v, want %v", name, block.Make(g.memory, g.hart.PC), g.steps, g.hart.PC, d, want)
	}
	return want
}

// stepped is the other side of H2: hart.Step, so often as is said there.
func stepped(t *testing.T, g given) api.Did {
	t.Helper()
	b := block.Make(g.memory, g.hart.PC)
	d := api.Did{Hart: g.hart, Memory: g.memory}
	for k, i := range b.Ins {
		if d.Steps == g.steps || d.Hart.State != api.Runs || d.Hart.PC != b.PC+4*uint32(k) || inside(b, d.Stores) {
			break
		}
		was := d.Hart
		h, m, out, ok := hart.Step(d.Hart, d.Memory)
		if !ok {
			t.Fatalf("no step of %v", d.Hart)
		}
		d.Hart, d.Memory, d.Out, d.Steps = h, m, append(d.Out, out...), d.Steps+1
		if r, does := stores(was, i); does && h.State == api.Runs {
			d.Stores = append(d.Stores, r)
		}
	}
	return d
}

// stores tells in which bytes an instruction of a hart stores, if it does not trap.
func stores(h api.Hart, i api.Ins) (api.Range, bool) {
	at := h.Regs[i.Rs1]
	switch {
	case i.Op == api.SB, i.Op == api.SH, i.Op == api.SW:
		at += uint32(i.Imm)
		return api.Range{From: at, To: at + 1<<(i.Op-api.SB)}, true
	case i.Op == api.SCW:
		return api.Range{From: at, To: at + 4}, h.Held && h.HeldAt == at
	case i.Op >= api.AMOSWAP && i.Op <= api.AMOMAXU:
		return api.Range{From: at, To: at + 4}, true
	}
	return api.Range{}, false
}

// inside says whether one of the bytes that were stored in is a byte of the block's.
func inside(b api.Block, stored []api.Range) bool {
	for _, r := range stored {
		for at := r.From; at < r.To; at++ {
			if at >= b.PC && at < b.PC+4*uint32(len(b.Ins)) {
				return true
			}
		}
	}
	return false
}

// TestExample: the chapter's example: an ADDI of register 0, as each of the two that it may be meant of.
func TestExample(t *testing.T) {
	for _, i := range []api.Ins{{Op: api.ADDI}, {Op: api.ADDI, Rd: 7, Imm: -5}, {Op: api.ADDI, Rs1: 5, Imm: 9}} {
		code := small(t, "ADDI", api.Block{PC: 12, Ins: []api.Ins{i}})
		if len(code) != 2 || code[0] != (api.Micro{Op: api.MAt, N: 12}) || code[1].Op != api.MSet {
			t.Errorf("%v: %v", i, code)
		}
	}
	h := fresh(1, 2)
	m := program(t, api.Ins{Op: api.ADDI, Rd: 7, Imm: -5})
	given{h, m, 1}.check(t, "ADDI of register 0", api.Did{Hart: at(set(h, 7, ones-4), place+4), Memory: m, Steps: 1})
	m = program(t, api.Ins{Op: api.ADDI, Rs1: 5, Imm: 9})
	given{h, m, 1}.check(t, "ADDI to register 0", api.Did{Hart: at(h, place+4), Memory: m, Steps: 1})
}

// TestRow: H2: a row of several kinds that lean on one another, by hand, at each number of steps.
func TestRow(t *testing.T) {
	h := fresh(96, 3)
	m := program(t,
		api.Ins{Op: api.LW, Rd: 7, Rs1: 5, Imm: 4},
		api.Ins{Op: api.ADD, Rd: 7, Rs1: 7, Rs2: 6},
		api.Ins{Op: api.SW, Rs1: 5, Rs2: 7, Imm: 8},
		api.Ins{Op: api.AMOADD, Rd: 9, Rs1: 5, Rs2: 6},
		api.Ins{Op: api.JALR, Rd: 5, Rs1: 5, Imm: 7},
	)
	hs := []api.Hart{h, at(set(h, 7, 0x80000005), 20), at(set(h, 7, 0x80000008), 24)}
	hs = append(hs, at(hs[2], 28), at(set(hs[2], 9, 0x84739281), 32))
	hs = append(hs, at(set(hs[4], 5, 36), 102))
	stored := lay(m, 104, 0x80000008)
	ms := [][]byte{m, m, m, stored, lay(stored, 96, 0x84739284), lay(stored, 96, 0x84739284)}
	rs := []api.Range{{From: 104, To: 108}, {From: 96, To: 100}}
	many := []int{0, 0, 0, 1, 2, 2}
	for steps := range 8 {
		k := min(steps, 5)
		want := api.Did{Hart: hs[k], Memory: ms[k], Steps: k, Stores: rs[:many[k]]}
		given{h, m, steps}.check(t, strconv.Itoa(steps)+" steps", want)
	}
	given{h, m, api.MaxSteps}.check(t, "MaxSteps", api.Did{Hart: hs[5], Memory: ms[5], Steps: 5, Stores: rs})
}
