package micro_test

import (
	"testing"

	"ferrybridge/api"
	"ferrybridge/mem"
	"ferrybridge/word"
)

// A model of the chapter, kind by kind, on registers that all stand in one list; which bytes were stored in is noted byte by byte.

type model struct {
	given
	regs    [36]uint32
	here    uint32
	did     api.Did
	touched map[uint32]bool
	stopped bool
	reached map[int]int
}

// modelled tells what Run is to answer of what may be, and notes in reached which ops were done.
func modelled(g given, reached map[int]int) api.Did {
	s := &model{given: g, here: g.hart.PC, touched: map[uint32]bool{}, reached: reached}
	s.did = api.Did{Hart: g.hart, Memory: g.memory}
	copy(s.regs[:], g.hart.Regs[:])
	for k := 0; k < len(g.code) && !s.stopped; k++ {
		s.does(g.code[k])
	}
	if !s.stopped && s.did.Steps > 0 {
		s.did.Hart.PC = s.here + 4
	}
	copy(s.did.Hart.Regs[:], s.regs[:32])
	return s.did
}

func (s *model) stop(pc uint32) {
	s.did.Hart.PC, s.stopped = pc, true
}

func (s *model) trap(cause int) {
	s.did.Hart.State, s.did.Hart.Cause = api.Trapped, cause
	s.stop(s.here)
}

func (s *model) become(d int, w uint32) {
	if d > 0 {
		s.regs[d] = w
	}
}

func (s *model) does(m api.Micro) {
	a, b := s.regs[m.A], s.regs[m.B]
	s.reached[m.Op]++
	switch m.Op / 100 {
	case 0:
		s.plain(m, a)
	case 1:
		if word.Holds(m.Op-100, a, b) {
			s.stop(m.N)
		}
	case 2:
		s.load(m.D, m.Op-200, a+m.N)
	case 3:
		s.store(m.Op-300, a+m.N, b)
	case 4:
		s.become(m.D, word.Alu(m.Op-400, a, b))
	case 5:
		s.become(m.D, word.Alu(m.Op-500, a, m.N))
	case 6:
		s.atom(m.D, m.Op-600, a, b)
	}
}

func (s *model) plain(m api.Micro, a uint32) {
	switch m.Op {
	case 1:
		s.begin(m.N)
	case 2:
		s.become(m.D, m.N)
	case 3:
		s.stop(m.N)
	case 4:
		s.stop((a + m.N) / 2 * 2)
	case 5:
		s.call()
	case 6:
		s.trap(6)
	}
}

func (s *model) begin(n uint32) {
	for k := range s.touched {
		if s.own.From <= k && k < s.own.To {
			s.stop(n)
			return
		}
	}
	if s.did.Steps == s.steps {
		s.stop(n)
		return
	}
	s.did.Steps, s.here = s.did.Steps+1, n
}

func (s *model) call() {
	switch s.regs[17] {
	case 0:
		s.did.Hart.State = api.Halted
		s.stop(s.here)
	case 1:
		s.did.Out = append(s.did.Out, s.regs[10])
	default:
		s.trap(api.CauseCall)
	}
}

func (s *model) load(d, op int, at uint32) bool {
	w, ok := mem.Load(s.did.Memory, op, at)
	if !ok {
		s.trap(api.CauseLoad)
		return false
	}
	s.become(d, w)
	return true
}

func (s *model) store(op int, at, w uint32) {
	m, ok := mem.Store(s.did.Memory, op, at, w)
	if !ok {
		s.trap(api.CauseStore)
		return
	}
	size := map[int]uint32{api.SB: 1, api.SH: 2, api.SW: 4}[op]
	for k := range size {
		s.touched[at+k] = true
	}
	s.did.Memory = m
	s.did.Stores = append(s.did.Stores, api.Range{From: at, To: at + size})
}

func (s *model) atom(d, op int, a, b uint32) {
	h := &s.did.Hart
	if op == api.LRW {
		if s.load(d, api.LW, a) {
			h.Held, h.HeldAt = true, a
		}
		return
	}
	old, ok := mem.Load(s.did.Memory, api.LW, a)
	if !ok {
		s.trap(api.CauseStore)
		return
	}
	if op != api.SCW {
		s.store(api.SW, a, word.Amo(op, old, b))
		s.become(d, old)
		return
	}
	was := *h
	h.Held, h.HeldAt = false, 0
	if was.Held && was.HeldAt == a {
		s.store(api.SW, a, b)
		s.become(d, 0)
	} else {
		s.become(d, 1)
	}
}

// strewn is a row of numbers by a fixed rule.
type strewn uint32

func (s *strewn) next() uint32 {
	*s ^= *s << 13
	*s ^= *s >> 17
	*s ^= *s << 5
	return uint32(*s)
}

func (s *strewn) below(n uint32) uint32 { return s.next() >> 7 % n }

// number is one that is often a place of a small memory.
func (s *strewn) number() uint32 {
	return []uint32{s.below(100), 4 * s.below(25), 4 * s.below(25), -s.below(40), s.next(), 0}[s.below(6)]
}

// register is one of a few, so that they meet: some of the hart's, and all above.
func (s *strewn) register() int {
	if s.below(3) == 0 {
		return 32 + int(s.below(4))
	}
	return []int{0, 1, 2, 3, 4, 5, 10, 17}[s.below(8)]
}

// world is some hart that runs and some memory, of any length up to a hundred bytes.
func (s *strewn) world() (api.Hart, []byte) {
	m := make([]byte, s.below(101))
	for k := range m {
		m[k] = byte(s.next() >> 9)
	}
	h := api.Hart{PC: s.number()}
	for k := 1; k < 32; k++ {
		h.Regs[k] = s.number()
	}
	h.Regs[17] = s.below(3)
	if s.below(2) == 0 {
		h = held(h, h.Regs[1+s.below(5)])
	}
	return h, m
}

// small is some small step that may be.
func (s *strewn) small(leaves uint32) api.Micro {
	all := kinds()
	k := all[s.below(uint32(len(all)))]
	for k.name == "MGo" || k.name == "MGoReg" || k.name == "MBreak" || k.name == "MCall" {
		if s.below(leaves) == 0 {
			break
		}
		k = all[s.below(uint32(len(all)))]
	}
	m := api.Micro{Op: k.first + int(s.below(uint32(k.last-k.first+1)))}
	for _, field := range k.fields {
		if field == 'N' {
			m.N = s.number()
		} else {
			m = with(m, string(field), s.register())
		}
	}
	return m
}

// TestModel: G2, G3: many rows against the model.
func TestModel(t *testing.T) {
	s := strewn(1)
	reached := map[int]int{}
	for range 60000 {
		var g given
		g.hart, g.memory = s.world()
		for range s.below(30) {
			g.code = append(g.code, s.small(6))
		}
		g.own = api.Range{From: s.number(), To: s.number()}
		g.steps = int(s.below(8))
		g.check(t, "strewn", modelled(g, reached))
		if t.Failed() {
			return
		}
	}
	for op := range ops() {
		if reached[op] < 200 {
			t.Errorf("op %d was done %d times", op, reached[op])
		}
	}
}

// TestSpoiltRows: G1, G2: of many rows one field of one small step is made some number: where May says no, Run does nothing.
func TestSpoiltRows(t *testing.T) {
	s := strewn(2)
	refused := 0
	for range 20000 {
		var g given
		g.hart, g.memory = s.world()
		for range 1 + s.below(10) {
			g.code = append(g.code, s.small(2))
		}
		m := &g.code[s.below(uint32(len(g.code)))]
		n := []int{int(s.below(40)), int(s.next()), -int(s.below(40)), int(int32(s.next()))}[s.below(4)]
		*[]*int{&m.Op, &m.D, &m.A, &m.B}[s.below(4)] = n
		g.steps = int(s.below(5))
		if may(g.code) {
			g.check(t, "still right", modelled(g, map[int]int{}))
			continue
		}
		refused++
		checkMay(t, "spoilt", false, g.code...)
		g.refused(t, "spoilt")
	}
	if refused < 5000 {
		t.Errorf("%d rows were refused", refused)
	}
}

// may is G1, field by field.
func may(code []api.Micro) bool {
	all := ops()
	for _, m := range code {
		fields, is := all[m.Op]
		wrong := map[byte]bool{'D': m.D < 0 || m.D > 35, 'A': m.A < 0 || m.A > 35, 'B': m.B < 0 || m.B > 35}
		some := map[byte]bool{'D': m.D != 0, 'A': m.A != 0, 'B': m.B != 0, 'N': m.N != 0}
		for k := range fields {
			delete(some, fields[k])
		}
		for _, is := range some {
			wrong['?'] = wrong['?'] || is
		}
		if !is || wrong['D'] || wrong['A'] || wrong['B'] || wrong['?'] {
			return false
		}
	}
	return true
}
