package trans_test

import (
	"slices"
	"strconv"
	"testing"

	"ferrybridge/api"
	"ferrybridge/block"
	"ferrybridge/decode"
)

// strewn is a row of numbers by a fixed rule.
type strewn uint32

func (s *strewn) next() uint32 {
	*s ^= *s << 13
	*s ^= *s >> 17
	*s ^= *s << 5
	return uint32(*s)
}

func (s *strewn) below(n uint32) uint32 { return s.next() >> 7 % n }

// number is one that is often a place of a small memory.
func (s *strewn) number() uint32 {
	return []uint32{s.below(length), 4 * s.below(length/4), 4 * s.below(length/4), 4 * s.below(length/4), -s.below(40), s.next(), 0}[s.below(7)]
}

// register is one of a few, so that they meet.
func (s *strewn) register() int { return []int{0, 1, 2, 3, 4, 5, 10, 17}[s.below(8)] }

// instruction is some instruction; those that end a block are rare.
func (s *strewn) instruction() api.Ins {
	op := 1 + int(s.below(api.EBREAK))
	for ender(op) && s.below(4) != 0 {
		op = 1 + int(s.below(api.EBREAK))
	}
	imm := []int32{int32(s.below(4096)) - 2048, 4 * int32(s.below(16)), int32(s.below(5)) - 2, int32(s.next()) &^ 4095, 0}[s.below(5)]
	return kind(op, s.register(), s.register(), s.register(), imm)
}

func ender(op int) bool {
	return op >= api.JAL && op <= api.BGEU || op == api.ECALL || op == api.EBREAK
}

// world is some hart that runs within a memory of instructions, a few numbers among them.
func (s *strewn) world(t *testing.T) given {
	t.Helper()
	g := given{memory: make([]byte, length), steps: []int{int(s.below(6)), int(s.below(20)), api.MaxSteps}[s.below(3)]}
	for p := 0; p < length; p += 4 {
		w := encoded(t, s.instruction())
		if s.below(24) == 0 {
			w = s.number()
		}
		g.memory = lay(g.memory, p, w)
	}
	for k := 1; k < 32; k++ {
		g.hart.Regs[k] = s.number()
	}
	g.hart.PC, g.hart.Regs[17] = 4*s.below(length/4), s.below(3)
	if s.below(2) == 0 {
		g.hart = held(g.hart, g.hart.Regs[1+s.below(5)])
	}
	return g
}

// ended tells why a run is over.
func ended(b api.Block, d api.Did) string {
	switch {
	case d.Hart.State == api.Halted:
		return "halted"
	case d.Hart.State == api.Trapped:
		return "cause " + strconv.Itoa(d.Hart.Cause)
	case inside(b, d.Stores) && d.Steps < len(b.Ins):
		return "stored in its own"
	case d.Steps == len(b.Ins) && ender(b.Ins[d.Steps-1].Op) && d.Hart.PC != b.PC+4*uint32(d.Steps):
		return "went elsewhere"
	case d.Steps == len(b.Ins):
		return "all done"
	}
	return "steps"
}

// TestModel: H1, H2: many blocks, by small steps and by steps; each instruction is done, and each reason to stop is met.
func TestModel(t *testing.T) {
	s := strewn(20261117)
	ops, lengths, reasons := map[int]int{}, map[int]int{}, map[string]int{}
	for range 60000 {
		g := s.world(t)
		b := block.Make(g.memory, g.hart.PC)
		if len(b.Ins) == 0 {
			continue
		}
		d := g.alike(t, "strewn")
		if t.Failed() {
			return
		}
		for _, i := range b.Ins[:d.Steps] {
			ops[i.Op]++
		}
		lengths[len(b.Ins)]++
		reasons[ended(b, d)]++
	}
	for op := api.LUI; op <= api.EBREAK; op++ {
		if ops[op] < 200 {
			t.Errorf("op %d was done %d times", op, ops[op])
		}
	}
	for count := 1; count <= api.MaxBlock; count++ {
		if lengths[count] < 20 {
			t.Errorf("%d blocks of %d instructions", lengths[count], count)
		}
	}
	for _, reason := range []string{"halted", "cause 3", "cause 4", "cause 5", "cause 6", "stored in its own", "went elsewhere", "all done", "steps"} {
		if reasons[reason] < 100 {
			t.Errorf("%s: %d times", reason, reasons[reason])
		}
	}
}

// TestOn: H2 again and again: a hart that goes from block to block by small steps is where one is that goes by steps, also where it changes its own words.
func TestOn(t *testing.T) {
	s := strewn(7)
	blocks := 0
	for range 2000 {
		g := s.world(t)
		for range 12 {
			if g.hart.State != api.Runs || len(block.Make(g.memory, g.hart.PC).Ins) == 0 {
				break
			}
			d := g.alike(t, "strewn")
			if t.Failed() {
				return
			}
			g.hart, g.memory = d.Hart, d.Memory
			blocks++
		}
	}
	if blocks < 3000 {
		t.Errorf("%d blocks", blocks)
	}
}

// TestSpoilt: H1: blocks one field of which is made some number: what is no instruction any more, and what still is.
func TestSpoilt(t *testing.T) {
	s := strewn(3)
	none := 0
	for range 20000 {
		var row []api.Ins
		for range 1 + s.below(api.MaxBlock+4) {
			row = append(row, s.instruction())
		}
		i := &row[s.below(uint32(len(row)))]
		numbers := odd()
		n := append(numbers, int(s.next()), -int(s.next()))[s.below(uint32(len(numbers)+2))]
		*[]*int{&i.Op, &i.Rd, &i.Rs1, &i.Rs2}[s.below(4)] = n
		i.Imm = []int32{i.Imm, i.Imm, int32(s.next())}[s.below(3)]
		if slices.ContainsFunc(row, func(i api.Ins) bool { _, e := decode.Encode(i); return e != api.OK }) {
			none++
		}
		checkOther(t, "spoilt", api.Block{PC: s.number(), Ins: row})
	}
	if none < 5000 {
		t.Errorf("%d blocks had what is no instruction", none)
	}
}
