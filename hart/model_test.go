package hart_test

import (
	"bytes"
	"slices"
	"testing"

	"ferrybridge/api"
	"ferrybridge/decode"
	"ferrybridge/hart"
	"ferrybridge/mem"
	"ferrybridge/word"
)

// A model of the chapter, op by op, that tells what a step of a hart that runs leaves.

type left struct {
	hart   api.Hart
	memory []byte
	out    []uint32
	stored api.Range
}

// asked is an instruction on its way: h and m as they were, and what is left so far.
type asked struct {
	left
	h       api.Hart
	m       []byte
	i       api.Ins
	a, b, n uint32
}

func (s *asked) trap(cause int) { s.left = left{hart: trapped(s.h, cause), memory: s.m} }

func (s *asked) rd(w uint32) {
	s.hart.Regs[s.i.Rd] = w
	s.hart.Regs[0] = 0
}

func (s *asked) store(op int, at, w, size uint32) {
	stored, ok := mem.Store(s.m, op, at, w)
	if !ok {
		s.trap(api.CauseStore)
		return
	}
	s.memory, s.stored = stored, api.Range{From: at, To: at + size}
}

// model tells it as D2 says, each instruction on its own.
func model(h api.Hart, m []byte) left {
	s := asked{left: left{hart: h, memory: m}, h: h, m: m}
	w, ok := mem.Load(m, api.LW, h.PC)
	if !ok {
		s.trap(api.CauseFetch)
		return s.left
	}
	if s.i, ok = decode.Decode(w); !ok {
		s.trap(api.CauseWord)
		return s.left
	}
	s.a, s.b, s.n = h.Regs[s.i.Rs1], h.Regs[s.i.Rs2], uint32(s.i.Imm)
	s.hart.PC = h.PC + 4
	s.does()
	return s.left
}

func (s *asked) does() {
	switch s.i.Op {
	case api.JAL, api.JALR, api.BEQ, api.BNE, api.BLT, api.BGE, api.BLTU, api.BGEU:
		s.jumps()
	case api.LB, api.LH, api.LW, api.LBU, api.LHU:
		s.loads(s.i.Op, s.a+s.n)
	case api.SB:
		s.store(api.SB, s.a+s.n, s.b, 1)
	case api.SH:
		s.store(api.SH, s.a+s.n, s.b, 2)
	case api.SW:
		s.store(api.SW, s.a+s.n, s.b, 4)
	case api.LRW:
		if s.loads(api.LW, s.a) {
			s.hart = held(s.hart, s.a)
		}
	case api.SCW, api.AMOSWAP, api.AMOADD, api.AMOXOR, api.AMOAND, api.AMOOR, api.AMOMIN, api.AMOMAX, api.AMOMINU, api.AMOMAXU:
		s.atoms()
	case api.FENCE:
	case api.ECALL:
		s.calls()
	case api.EBREAK:
		s.trap(api.CauseBreak)
	default:
		s.numbers()
	}
}

func (s *asked) jumps() {
	switch {
	case s.i.Op == api.JAL:
		s.rd(s.h.PC + 4)
		s.hart.PC = s.h.PC + s.n
	case s.i.Op == api.JALR:
		s.rd(s.h.PC + 4)
		s.hart.PC = (s.a + s.n) / 2 * 2
	case word.Holds(s.i.Op, s.a, s.b):
		s.hart.PC = s.h.PC + s.n
	}
}

func (s *asked) loads(op int, at uint32) bool {
	w, ok := mem.Load(s.m, op, at)
	if !ok {
		s.trap(api.CauseLoad)
		return false
	}
	s.rd(w)
	return true
}

func (s *asked) numbers() {
	switch s.i.Op {
	case api.LUI:
		s.rd(s.n)
	case api.AUIPC:
		s.rd(s.h.PC + s.n)
	case api.ADDI:
		s.rd(word.Alu(api.ADD, s.a, s.n))
	case api.SLTI:
		s.rd(word.Alu(api.SLT, s.a, s.n))
	case api.SLTIU:
		s.rd(word.Alu(api.SLTU, s.a, s.n))
	case api.XORI:
		s.rd(word.Alu(api.XOR, s.a, s.n))
	case api.ORI:
		s.rd(word.Alu(api.OR, s.a, s.n))
	case api.ANDI:
		s.rd(word.Alu(api.AND, s.a, s.n))
	case api.SLLI:
		s.rd(word.Alu(api.SLL, s.a, s.n))
	case api.SRLI:
		s.rd(word.Alu(api.SRL, s.a, s.n))
	case api.SRAI:
		s.rd(word.Alu(api.SRA, s.a, s.n))
	default:
		s.rd(word.Alu(s.i.Op, s.a, s.b))
	}
}

func (s *asked) atoms() {
	old, ok := mem.Load(s.m, api.LW, s.a)
	switch {
	case !ok:
		s.trap(api.CauseStore)
	case s.i.Op != api.SCW:
		s.rd(old)
		s.store(api.SW, s.a, word.Amo(s.i.Op, old, s.b), 4)
	case s.h.Held && s.h.HeldAt == s.a:
		s.rd(0)
		s.store(api.SW, s.a, s.b, 4)
		s.hart.Held, s.hart.HeldAt = false, 0
	default:
		s.rd(1)
		s.hart.Held, s.hart.HeldAt = false, 0
	}
}

func (s *asked) calls() {
	switch s.h.Regs[17] {
	case 0:
		s.hart = s.h
		s.hart.State = api.Halted
	case 1:
		s.out = []uint32{s.h.Regs[10]}
	default:
		s.trap(api.CauseCall)
	}
}

// strewn is a row of numbers by a fixed rule.
type strewn uint32

func (s *strewn) next() uint32 {
	*s ^= *s << 13
	*s ^= *s >> 17
	*s ^= *s << 5
	return uint32(*s)
}

func (s *strewn) below(n uint32) uint32 { return s.next() >> 7 % n }

// ins is some instruction; registers are few, so that they meet.
func (s *strewn) ins() uint32 {
	for {
		i := api.Ins{
			Op: int(1 + s.below(api.EBREAK)), Rd: int(s.below(6)), Rs1: int(s.below(6)), Rs2: int(s.below(6)),
			Imm: int32(s.below(64)) - 16,
		}
		switch s.below(4) {
		case 0:
			i.Imm = 0
		case 1:
			i.Imm = int32(s.next())
		}
		for _, i := range []api.Ins{i, {Op: i.Op, Rd: i.Rd, Rs1: i.Rs1, Rs2: i.Rs2}, {Op: i.Op, Rd: i.Rd, Rs1: i.Rs1, Imm: i.Imm}, {Op: i.Op, Rs1: i.Rs1, Rs2: i.Rs2, Imm: i.Imm}, {Op: i.Op}} {
			if w, e := decode.Encode(i); e == api.OK {
				return w
			}
		}
	}
}

// world is some hart that runs and some memory, of any length up to a hundred bytes.
func (s *strewn) world() (api.Hart, []byte) {
	m := make([]byte, 4*(1+s.below(25)))
	for at := 0; at < len(m); at += 4 {
		m = lay(m, at, s.ins())
	}
	m = m[:len(m)-int(s.below(2)*s.below(4))]
	var h api.Hart
	for k := 1; k < 32; k++ {
		h.Regs[k] = []uint32{s.below(100), 4 * s.below(25), 4 * s.below(25), -s.below(40), s.next()}[s.below(5)]
	}
	h.Regs[17] = s.below(3)
	if s.below(2) == 0 {
		h = held(h, 4*s.below(25))
	}
	if s.below(3) == 0 {
		h = held(h, h.Regs[1+s.below(5)])
	}
	h.PC = 4 * s.below(uint32(len(m)/4+1))
	return h, m
}

// TestModel: D2: steps of many worlds, as long as a hart runs, against the model; and in which bytes a core notes that it stored.
func TestModel(t *testing.T) {
	s := strewn(1)
	seen := map[int]int{}
	for range 30000 {
		h, m := s.world()
		for range 20 {
			w, ok := mem.Load(m, api.LW, h.PC)
			if i, is := decode.Decode(w); ok && is {
				seen[i.Op]++
			}
			want := model(h, m)
			got, gotM, out, ok := hart.Step(h, m)
			if !ok || got != want.hart || !bytes.Equal(gotM, want.memory) || !slices.Equal(out, want.out) {
				t.Fatalf("Step(%v, %v): %v, %v, %v, %v, want %v", h, m, got, gotM, out, ok, want)
			}
			checkCore(t, h, m, want)
			if h, m = got, gotM; h.State != api.Runs {
				break
			}
		}
	}
	for op := api.LUI; op <= api.EBREAK; op++ {
		if seen[op] < 50 {
			t.Errorf("op %d was done %d times", op, seen[op])
		}
	}
}

// checkCore holds a step of a core against the model, with what it notes of its stores.
func checkCore(t *testing.T, h api.Hart, m []byte, want left) {
	t.Helper()
	c, ok := hart.NewCore(h, m)
	if !ok {
		t.Fatalf("no core of %v", h)
	}
	c.Step()
	var stores []api.Range
	if want.stored != (api.Range{}) {
		stores = []api.Range{want.stored}
	}
	if c.Hart != want.hart || !bytes.Equal(c.Memory, want.memory) || !slices.Equal(c.Out, want.out) || !slices.Equal(c.Stores, stores) {
		t.Fatalf("core of %v, %v: %v, want %v", h, m, c, want)
	}
}

// TestCoreGoesOn: a core's stores and what came out are noted in order, over several steps.
func TestCoreGoesOn(t *testing.T) {
	h := api.Hart{}
	h.Regs[5], h.Regs[6], h.Regs[10], h.Regs[17] = 32, 7, 9, 1
	m := make([]byte, length)
	for k, i := range []api.Ins{
		{Op: api.SB, Rs1: 5, Rs2: 6, Imm: 1}, {Op: api.ECALL}, {Op: api.SH, Rs1: 5, Rs2: 6, Imm: 2}, {Op: api.ADDI, Rd: 10, Imm: 8},
		{Op: api.ECALL}, {Op: api.AMOADD, Rs1: 5, Rs2: 6}, {Op: api.SCW, Rs1: 5, Rs2: 6}, {Op: api.EBREAK},
	} {
		m = lay(m, 4*k, encoded(t, i))
	}
	c, _ := hart.NewCore(h, m)
	for c.State == api.Runs {
		c.Step()
	}
	if !slices.Equal(c.Stores, []api.Range{{From: 33, To: 34}, {From: 34, To: 36}, {From: 32, To: 36}}) {
		t.Errorf("stores %v", c.Stores)
	}
	if !slices.Equal(c.Out, []uint32{9, 8}) || c.Cause != api.CauseBreak || c.PC != 28 {
		t.Errorf("out %v, cause %d, PC %d", c.Out, c.Cause, c.PC)
	}
	if !bytes.Equal(c.Memory[32:36], []byte{7, 7, 7, 0}) {
		t.Errorf("memory %v", c.Memory[32:36])
	}
}

// TestOwnMemory: P3: the memory that is answered shares nothing with the one that is handed in, also where nothing was stored, and of a trap.
func TestOwnMemory(t *testing.T) {
	for op := api.LUI; op <= api.EBREAK; op++ {
		for _, a := range []uint32{32, 33} {
			m := lay(data(), place, encoded(t, instruction(op, 0, 0)))
			was := bytes.Clone(m)
			_, got, _, _ := hart.Step(runner(a, 99), m)
			_, again, _, _ := hart.Step(runner(a, 99), m)
			kept := bytes.Clone(again)
			for k := range got {
				got[k] += 100
			}
			if !bytes.Equal(m, was) || !bytes.Equal(again, kept) {
				t.Errorf("op %d: the answer lies on the memory, or on another answer", op)
			}
			for k := range m {
				m[k] += 50
			}
			if !bytes.Equal(again, kept) {
				t.Errorf("op %d: the memory lies on the answer", op)
			}
		}
	}
}

// TestBehindLength: P3: what lies behind the length is neither fetched, read nor written, nor reached by the answer.
func TestBehindLength(t *testing.T) {
	whole := lay(data(), place, 19, 19)
	was := bytes.Clone(whole)
	h := runner(1, 2)
	check(t, "a word behind the length", h, whole[:place], trapped(h, api.CauseFetch), was[:place])
	check(t, "half a word", h, whole[:place+2], trapped(h, api.CauseFetch), was[:place+2])
	for op, cause := range map[int]int{api.LB: api.CauseLoad, api.LW: api.CauseLoad, api.SB: api.CauseStore, api.SW: api.CauseStore, api.LRW: api.CauseLoad, api.AMOADD: api.CauseStore, api.SCW: api.CauseStore} {
		m := lay(whole, place, encoded(t, instruction(op, 0, 0)))
		h := runner(32, 2)
		check(t, "behind the length", h, m[:32], trapped(h, cause), m[:32])
	}
	_, got, _, _ := hart.Step(h, whole[:32])
	if len(got) != 32 {
		t.Fatalf("%d bytes of 32", len(got))
	}
	_ = append(got, 1, 2, 3, 4)
	if !bytes.Equal(whole, was) {
		t.Errorf("the bytes behind the length became %v", whole)
	}
}
