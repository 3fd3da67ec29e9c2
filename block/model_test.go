package block_test

import (
	"slices"
	"testing"

	"ferrybridge/api"
	"ferrybridge/block"
	"ferrybridge/decode"
	"ferrybridge/hart"
	"ferrybridge/mem"
)

// strewn is a row of numbers by a fixed rule.
type strewn uint32

func (s *strewn) next() uint32 {
	*s ^= *s << 13
	*s ^= *s >> 17
	*s ^= *s << 5
	return uint32(*s)
}

func (s *strewn) below(n uint32) uint32 { return s.next() >> 7 % n }

// word is some word: now and then any at all, one that ends a block, else one of the other instructions.
func (s *strewn) word(t *testing.T) uint32 {
	t.Helper()
	switch s.below(30) {
	case 0:
		return s.next()
	case 1, 2:
		return encoded(t, enders()[s.below(10)])
	}
	i := others()[s.below(49)]
	w := encoded(t, i) | s.below(32)<<15
	if _, ok := decode.Decode(w); !ok {
		return encoded(t, i)
	}
	return w
}

// memory is some memory, that may end within a word.
func (s *strewn) memory(t *testing.T) []byte {
	t.Helper()
	var m []byte
	for range s.below(40) {
		m = put(m, s.word(t))
	}
	return m[:max(0, len(m)-int(s.below(3)*s.below(4)))]
}

// model tells a block backwards: from the instruction at pc and those of the block behind it, if there is one more.
func model(m []byte, pc uint32, room int) []api.Ins {
	w, ok := mem.Load(m, api.LW, pc)
	i, is := decode.Decode(w)
	if room == 0 || !ok || !is {
		return nil
	}
	row := []api.Ins{i}
	if i.Op >= api.JAL && i.Op <= api.BGEU || i.Op == api.ECALL || i.Op == api.EBREAK {
		return row
	}
	return append(row, model(m, pc+4, room-1)...)
}

// TestModel: F1: blocks at each place of many memories, against the model, with each length met.
func TestModel(t *testing.T) {
	s := strewn(20261117)
	lengths := map[int]int{}
	for range 400 {
		m := s.memory(t)
		for pc := range uint32(len(m) + 5) {
			want := model(m, pc, api.MaxBlock)
			check(t, "strewn", m, pc, want)
			lengths[len(want)]++
		}
	}
	for count := range api.MaxBlock + 1 {
		if lengths[count] == 0 {
			t.Errorf("no block of %d instructions", count)
		}
	}
}

// TestSteps: F1: the instructions of a block are those of D2: a hart at the place of each of them does not trap for want of it, and behind a block that ends early it does.
func TestSteps(t *testing.T) {
	s := strewn(1711)
	for range 200 {
		m := s.memory(t)
		for pc := uint32(0); pc < uint32(len(m)+8); pc += 4 {
			b := block.Make(m, pc)
			r := block.Bytes(b)
			for at := r.From; at < r.To; at += 4 {
				if wants(t, m, at) {
					t.Errorf("at %d of %v: no instruction", at, b)
				}
			}
			ended := len(b.Ins) > 0 && slices.ContainsFunc(enders(), func(e api.Ins) bool { return e.Op == b.Ins[len(b.Ins)-1].Op })
			if !ended && len(b.Ins) < api.MaxBlock && !wants(t, m, r.To) {
				t.Errorf("behind %v: an instruction", b)
			}
		}
	}
}

// wants says whether a hart traps at pc since no instruction is there.
func wants(t *testing.T, m []byte, pc uint32) bool {
	t.Helper()
	h, _, _, ok := hart.Step(api.Hart{PC: pc}, m)
	if !ok {
		t.Fatalf("no step at %d", pc)
	}
	return h.Cause == api.CauseFetch || h.Cause == api.CauseWord
}
