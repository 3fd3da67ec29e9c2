package cache_test

import (
	"cmp"
	"slices"
	"testing"

	"ferrybridge/api"
	"ferrybridge/block"
	"ferrybridge/cache"
)

// strewn is a row of numbers by a fixed rule.
type strewn uint32

func (s *strewn) next() uint32 {
	*s ^= *s << 13
	*s ^= *s >> 17
	*s ^= *s << 5
	return uint32(*s)
}

func (s *strewn) below(n uint32) uint32 { return s.next() >> 7 % n }

// entry is a block, and when it was put.
type entry struct {
	when  int
	block api.Block
}

// history is what I3 says of a cache: by PC the last block that was put there, since when it was not pushed out, nor stale.
type history struct {
	entries             map[uint32]entry
	room, pushed, stale int
	turn                int
}

func (h *history) put(b api.Block) {
	h.turn++
	h.entries[b.PC] = entry{h.turn, b}
	if len(h.entries) > h.room {
		delete(h.entries, h.blocks()[0].PC)
		h.pushed++
	}
}

func (h *history) touch(r api.Range) {
	for pc, e := range h.entries {
		if has(e.block, r) {
			delete(h.entries, pc)
			h.stale++
		}
	}
}

// blocks are those that are there, the eldest ahead.
func (h *history) blocks() []api.Block {
	var entries []entry
	for _, e := range h.entries {
		entries = append(entries, e)
	}
	slices.SortFunc(entries, func(a, b entry) int { return cmp.Compare(a.when, b.when) })
	var blocks []api.Block
	for _, e := range entries {
		blocks = append(blocks, e.block)
	}
	return blocks
}

// cache is what the history says that there is.
func (h *history) cache() api.Cache {
	return api.Cache{Room: h.room, Blocks: h.blocks(), Pushed: h.pushed, Stale: h.stale}
}

// TestHistory: I3: caches of many rooms, through rows of Puts and Stales, against their history; what is found at each place is what the history says.
func TestHistory(t *testing.T) {
	s := strewn(20261117)
	for round := range 130 {
		room := round % (api.MaxBlocks + 1)
		c := fresh(t, room)
		h := history{entries: map[uint32]entry{}, room: room}
		places := 1 + s.below(uint32(2*room+4))
		for step := range 250 {
			if s.below(10) < 8 {
				b := marked(8*s.below(places), 1+int(s.below(6)), step)
				h.put(b)
				c = put(t, c, b)
			} else {
				from := s.below(8 * places)
				r := api.Range{From: from, To: from + s.below(12)}
				h.touch(r)
				c = cache.Stale(c, r)
			}
			if want := h.cache(); !same(c, want) {
				t.Fatalf("room %d, step %d: %v, want %v", room, step, c, want)
			}
			pc := 4 * s.below(2*places+4)
			b, is := cache.Find(c, pc)
			if e, ok := h.entries[pc]; is != ok || !sameBlock(b, e.block) {
				t.Fatalf("room %d, step %d: Find at %d: %v %v, want %v %v", room, step, pc, b, is, e.block, ok)
			}
		}
	}
}

// TestKeptAsTheyWere: P3: a cache that was handed in, again and again, answers the same as ahead of it, whatever was made of it.
func TestKeptAsTheyWere(t *testing.T) {
	c := put(t, fresh(t, 3), of(0, 2), of(8, 3), of(40, 4))
	was := clone(c)
	one, _ := cache.Put(c, of(80, 1))
	two, _ := cache.Put(c, of(120, 1))
	three, _ := cache.Put(c, marked(8, 3, 5))
	four := cache.Stale(c, api.Range{From: 0, To: 9})
	for name, e := range map[string]struct {
		got  api.Cache
		want []api.Block
	}{
		"one":   {one, row(of(8, 3), of(40, 4), of(80, 1))},
		"two":   {two, row(of(8, 3), of(40, 4), of(120, 1))},
		"three": {three, row(of(0, 2), of(40, 4), marked(8, 3, 5))},
		"four":  {four, row(of(40, 4))},
		"was":   {c, was.Blocks},
	} {
		if !slices.EqualFunc(e.got.Blocks, e.want, sameBlock) {
			t.Errorf("%s: %v, want %v", name, e.got.Blocks, e.want)
		}
	}
}

// TestOfMemory: F2, I2: blocks that block.Make answers of a memory are stale where a byte changes by which Make answers others.
func TestOfMemory(t *testing.T) {
	var m []byte
	for k := range 12 {
		m = append(m, 19, byte(k<<4), 0, 0)
	}
	m[5*4] = 115
	m[5*4+1] = 0
	c := fresh(t, 64)
	for pc := uint32(0); pc < uint32(len(m)); pc += 4 {
		c = put(t, c, block.Make(m, pc))
	}
	for at := range uint32(len(m)) {
		m[at] ^= 128
		d := cache.Stale(c, api.Range{From: at, To: at + 1})
		for _, b := range c.Blocks {
			made := block.Make(m, b.PC)
			if _, is := cache.Find(d, b.PC); is != slices.Equal(made.Ins, b.Ins) {
				t.Errorf("byte %d: block at %d kept: %v; now %v, was %v", at, b.PC, is, made, b)
			}
		}
		m[at] ^= 128
	}
}
