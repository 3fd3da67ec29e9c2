package undo_test

import (
	"bytes"
	"testing"

	"ferrybridge/api"
)

// one is the Undo of one step by the first hart of m; Back of it must be m again.
func one(t *testing.T, name string, m api.Machine) (api.Shown, api.Undo) {
	t.Helper()
	s, l := run(t, name, m, api.Pick{Hart: 0, Steps: 1})
	if len(l) != 1 {
		t.Fatalf("%s: %d Undos", name, len(l))
	}
	if got := back(t, name, s.Machine, l, 1); !sameMachine(got, m) {
		t.Errorf("%s: back is %v, want %v", name, got, m)
	}
	if got := back(t, name, s.Machine, l, 0); !sameMachine(got, s.Machine) {
		t.Errorf("%s: back by no step is %v, want %v", name, got, s.Machine)
	}
	return s, l[0]
}

// checkOne holds the Undo of one step by the first hart of m against want, with that hart as Was.
func checkOne(t *testing.T, name string, m api.Machine, want api.Undo) {
	t.Helper()
	want.Was = m.Harts[0]
	if _, u := one(t, name, m); !sameUndo(u, want) {
		t.Errorf("%s: %v, want %v", name, u, want)
	}
}

// stores are instructions that store x6 at x5, by how many bytes.
var stores = map[string]struct {
	op   int
	size uint32
}{
	"SB": {api.SB, 1}, "SH": {api.SH, 2}, "SW": {api.SW, 4}, "SCW": {api.SCW, 4},
	"AMOSWAP": {api.AMOSWAP, 4}, "AMOADD": {api.AMOADD, 4}, "AMOXOR": {api.AMOXOR, 4}, "AMOAND": {api.AMOAND, 4}, "AMOOR": {api.AMOOR, 4},
	"AMOMIN": {api.AMOMIN, 4}, "AMOMAX": {api.AMOMAX, 4}, "AMOMINU": {api.AMOMINU, 4}, "AMOMAXU": {api.AMOMAXU, 4},
}

// TestStores: L1: From and Bytes of each instruction that stores, at each place where it may, the first and the last one of the memory among them.
func TestStores(t *testing.T) {
	for name, kind := range stores {
		m := filled(t, api.Ins{Op: kind.op, Rs1: 5, Rs2: 6})
		for at := uint32(0); at < uint32(len(m)); at += kind.size {
			h := storer(at, 0x8192a3b4)
			if kind.op == api.SCW {
				h = held(h, at)
			}
			checkOne(t, name, of(m, h, held(full(2), 1<<20)), api.Undo{From: at, Bytes: m[at : at+kind.size]})
		}
	}
}

// TestStoresWritten: L1, with places and bytes that are written out by hand; Imm is a part of the place.
func TestStoresWritten(t *testing.T) {
	for name, c := range map[string]struct {
		i     api.Ins
		from  uint32
		bytes []byte
	}{
		"SB":              {api.Ins{Op: api.SB, Rs1: 5, Rs2: 6, Imm: 3}, 131, []byte{4}},
		"SB below":        {api.Ins{Op: api.SB, Rs1: 5, Rs2: 6, Imm: -1}, 127, []byte{255}},
		"SH":              {api.Ins{Op: api.SH, Rs1: 5, Rs2: 6, Imm: 2}, 130, []byte{3, 4}},
		"SW":              {api.Ins{Op: api.SW, Rs1: 5, Rs2: 6}, 128, []byte{1, 2, 3, 4}},
		"SW above":        {api.Ins{Op: api.SW, Rs1: 5, Rs2: 6, Imm: 4}, 132, []byte{5, 6, 7, 8}},
		"SW at itself":    {api.Ins{Op: api.SW, Rs2: 6}, 0, []byte{0x23, 0x20, 0x60, 0}},
		"AMOADD":          {api.Ins{Op: api.AMOADD, Rd: 5, Rs1: 5, Rs2: 6}, 128, []byte{1, 2, 3, 4}},
		"AMOMAXU, Rd 0":   {api.Ins{Op: api.AMOMAXU, Rs1: 5, Rs2: 6}, 128, []byte{1, 2, 3, 4}},
		"AMOSWAP, Rd Rs2": {api.Ins{Op: api.AMOSWAP, Rd: 6, Rs1: 5, Rs2: 6, Imm: 3}, 128, []byte{1, 2, 3, 4}},
		"SCW":             {api.Ins{Op: api.SCW, Rd: 7, Rs1: 5, Rs2: 6}, 128, []byte{1, 2, 3, 4}},
	} {
		m := filled(t, c.i)
		copy(m[127:], []byte{255, 1, 2, 3, 4, 5, 6, 7, 8})
		checkOne(t, name, of(m, held(storer(128, 0xdeadbeef), 128)), api.Undo{From: c.from, Bytes: c.bytes})
	}
}

// TestStoresTheSame: L1: bytes that are stored in as they were are told all the same.
func TestStoresTheSame(t *testing.T) {
	for name, kind := range stores {
		m := filled(t, api.Ins{Op: kind.op, Rs1: 5, Rs2: 6})
		put(m, 128, 0)
		s, u := one(t, name, of(m, held(storer(128, 0), 128), held(full(2), 131)))
		lost := kind.size == 4
		if !bytes.Equal(s.Machine.Memory, m) || u.From != 128 || !bytes.Equal(u.Bytes, make([]byte, kind.size)) || (len(u.Lost) == 1) != lost {
			t.Errorf("%s: %v", name, u)
		}
	}
}

// TestNothingStored: L1: of a step that stores in no bytes From is 0, and there are no Bytes, and none that Lost; though others are Held at its place.
func TestNothingStored(t *testing.T) {
	for name, c := range map[string]struct {
		i     api.Ins
		x5    uint32
		state int
	}{
		"LUI":               {api.Ins{Op: api.LUI, Rd: 5, Imm: 4096}, 128, api.Runs},
		"AUIPC":             {api.Ins{Op: api.AUIPC, Rd: 5, Imm: 4096}, 128, api.Runs},
		"JAL":               {api.Ins{Op: api.JAL, Rd: 5, Imm: 8}, 128, api.Runs},
		"JALR":              {api.Ins{Op: api.JALR, Rd: 5, Rs1: 5, Imm: 8}, 128, api.Runs},
		"BEQ that goes":     {api.Ins{Op: api.BEQ, Rs1: 5, Rs2: 5, Imm: 8}, 128, api.Runs},
		"BNE that does not": {api.Ins{Op: api.BNE, Rs1: 5, Rs2: 5, Imm: 8}, 128, api.Runs},
		"LB":                {api.Ins{Op: api.LB, Rd: 5, Rs1: 5, Imm: 3}, 128, api.Runs},
		"LH":                {api.Ins{Op: api.LH, Rd: 5, Rs1: 5, Imm: 2}, 128, api.Runs},
		"LW":                {api.Ins{Op: api.LW, Rd: 5, Rs1: 5}, 128, api.Runs},
		"LW that traps":     {api.Ins{Op: api.LW, Rd: 5, Rs1: 5}, 129, api.Trapped},
		"ADDI":              {api.Ins{Op: api.ADDI, Rd: 5, Rs1: 5, Imm: -1}, 128, api.Runs},
		"ADD":               {api.Ins{Op: api.ADD, Rd: 5, Rs1: 5, Rs2: 6}, 128, api.Runs},
		"DIV":               {api.Ins{Op: api.DIV, Rd: 5, Rs1: 5}, 128, api.Runs},
		"LRW":               {api.Ins{Op: api.LRW, Rd: 5, Rs1: 5}, 128, api.Runs},
		"LRW that traps":    {api.Ins{Op: api.LRW, Rd: 5, Rs1: 5}, 130, api.Trapped},
		"FENCE":             {api.Ins{Op: api.FENCE}, 128, api.Runs},
		"SB behind":         {api.Ins{Op: api.SB, Rs1: 5, Rs2: 6}, 256, api.Trapped},
		"SB far behind":     {api.Ins{Op: api.SB, Rs1: 5, Rs2: 6}, ones, api.Trapped},
		"SH between":        {api.Ins{Op: api.SH, Rs1: 5, Rs2: 6}, 129, api.Trapped},
		"SW between":        {api.Ins{Op: api.SW, Rs1: 5, Rs2: 6}, 130, api.Trapped},
		"SW behind":         {api.Ins{Op: api.SW, Rs1: 5, Rs2: 6}, 256, api.Trapped},
		"SCW between":       {api.Ins{Op: api.SCW, Rd: 7, Rs1: 5, Rs2: 6}, 130, api.Trapped},
		"SCW behind":        {api.Ins{Op: api.SCW, Rd: 7, Rs1: 5, Rs2: 6}, 256, api.Trapped},
		"AMOADD between":    {api.Ins{Op: api.AMOADD, Rd: 7, Rs1: 5, Rs2: 6}, 129, api.Trapped},
		"AMOMIN behind":     {api.Ins{Op: api.AMOMIN, Rd: 7, Rs1: 5, Rs2: 6}, 256, api.Trapped},
		"ECALL of others":   {api.Ins{Op: api.ECALL}, 128, api.Trapped},
		"EBREAK":            {api.Ins{Op: api.EBREAK}, 128, api.Trapped},
	} {
		m := of(filled(t, c.i), held(storer(c.x5, 6), 64), held(full(2), 128), held(full(3), 254), held(full(4), ones))
		checkOne(t, name, m, api.Undo{})
		if s, _ := one(t, name, m); s.Machine.Harts[0].State != c.state {
			t.Errorf("%s: state %d", name, s.Machine.Harts[0].State)
		}
	}
}

// TestSCW: L1: one that stores tells the word, and which hart was Held; one that does not tells the hart alone. Back gives it what it had reserved.
func TestSCW(t *testing.T) {
	m := filled(t, api.Ins{Op: api.SCW, Rd: 7, Rs1: 5, Rs2: 6})
	other := held(full(2), 130)
	for name, c := range map[string]struct {
		h    api.Hart
		rd   uint32
		want api.Undo
	}{
		"stores":           {held(storer(128, 9), 128), 0, api.Undo{From: 128, Bytes: m[128:132], Lost: []api.Lost{{Hart: 1, At: 130}}}},
		"stores at 0":      {held(storer(0, 9), 0), 0, api.Undo{From: 0, Bytes: m[0:4]}},
		"not held":         {storer(128, 9), 1, api.Undo{}},
		"held elsewhere":   {held(storer(128, 9), 132), 1, api.Undo{}},
		"held in between":  {held(storer(128, 9), 130), 1, api.Undo{}},
		"held at 0":        {held(storer(128, 9), 0), 1, api.Undo{}},
		"at 0, not held":   {storer(0, 9), 1, api.Undo{}},
		"held far behind":  {held(storer(128, 9), ones), 1, api.Undo{}},
		"held, high parts": {held(storer(128, 9), 1<<16+128), 1, api.Undo{}},
	} {
		checkOne(t, name, of(m, c.h, other), c.want)
		s, _ := one(t, name, of(m, c.h, other))
		if h := s.Machine.Harts[0]; h.Regs[7] != c.rd || h.Held {
			t.Errorf("%s: %v", name, h)
		}
	}
}

// TestTraps: L1: a step that traps is one, of each cause; Was is the hart that ran.
func TestTraps(t *testing.T) {
	at := func(pc uint32) api.Hart {
		h := held(storer(130, 6), 64)
		h.PC = pc
		return h
	}
	m := filled(t, api.Ins{Op: api.LW, Rd: 7, Rs1: 5}, api.Ins{Op: api.SW, Rs1: 5, Rs2: 6}, api.Ins{Op: api.ECALL}, api.Ins{Op: api.EBREAK})
	put(m, 16, 0)
	for cause, pc := range map[int]uint32{api.CauseFetch: 256, api.CauseWord: 16, api.CauseLoad: 0, api.CauseStore: 4, api.CauseCall: 8, api.CauseBreak: 12} {
		before := of(m, at(pc), held(full(2), 130), held(full(3), pc))
		checkOne(t, "trap", before, api.Undo{})
		s, _ := one(t, "trap", before)
		if h := s.Machine.Harts[0]; h.State != api.Trapped || h.Cause != cause {
			t.Errorf("cause %d: %v", cause, h)
		}
	}
	for _, pc := range []uint32{2, 1, 254, ones, ones - 3} {
		checkOne(t, "fetch", of(m, at(pc)), api.Undo{})
	}
	checkOne(t, "no memory", of(nil, at(0)), api.Undo{})
}

// TestEnds: L1: a step that halts is one, and what it does behind is none; what came out ahead of it is shown, and tells no Undo of its own.
func TestEnds(t *testing.T) {
	m := filled(t, api.Ins{Op: api.ECALL}, api.Ins{Op: api.ADDI, Rd: 17}, api.Ins{Op: api.ECALL}, api.Ins{Op: api.EBREAK})
	first := full(1)
	first.Regs[10], first.Regs[17] = 42, 1
	second, third := first, first
	second.PC, third.PC, third.Regs[17] = 4, 8, 0
	s, l := run(t, "ends", of(m, first, full(2)), api.Pick{Hart: 0, Steps: api.MaxSteps}, api.Pick{Hart: 0, Steps: 5})
	if s.Machine.Harts[0] != halted(third) || len(s.Out) != 1 || s.Out[0] != 42 {
		t.Fatalf("%v", s)
	}
	for k, was := range []api.Hart{first, second, third} {
		if !sameUndo(l[k], api.Undo{Was: was}) {
			t.Errorf("step %d: %v", k, l[k])
		}
	}
	for k, want := range []api.Hart{halted(third), third, second, first} {
		if got := back(t, "ends", s.Machine, l, k); !sameMachine(got, of(m, want, full(2))) {
			t.Errorf("%d steps back: %v, want %v", k, got.Harts, want)
		}
	}
}
