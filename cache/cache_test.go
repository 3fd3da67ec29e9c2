package cache_test

import (
	"math"
	"slices"
	"strconv"
	"testing"

	"ferrybridge/api"
	"ferrybridge/cache"
)

const ones = uint32(1<<32 - 1)

// of is a block at pc of so many instructions, which tell it from all others of another PC or count.
func of(pc uint32, count int) api.Block { return marked(pc, count, 0) }

// marked is a block that differs from others of the same PC and count by its mark.
func marked(pc uint32, count, mark int) api.Block {
	b := api.Block{PC: pc}
	for k := range count {
		b.Ins = append(b.Ins, api.Ins{Op: api.ADDI, Rd: 1 + k%31, Rs1: mark, Imm: int32(pc%1000) + int32(count)})
	}
	return b
}

// at are blocks of one instruction each, at these places.
func at(places ...uint32) []api.Block {
	var blocks []api.Block
	for _, pc := range places {
		blocks = append(blocks, of(pc, 1))
	}
	return blocks
}

func row(blocks ...api.Block) []api.Block { return blocks }

func sameBlock(a, b api.Block) bool { return a.PC == b.PC && slices.Equal(a.Ins, b.Ins) }

func same(a, b api.Cache) bool {
	return a.Room == b.Room && a.Pushed == b.Pushed && a.Stale == b.Stale && slices.EqualFunc(a.Blocks, b.Blocks, sameBlock)
}

// cloneBlock is a block in memory of its own, with an instruction behind its length.
func cloneBlock(b api.Block) api.Block {
	ins := append(slices.Clone(b.Ins), api.Ins{Op: api.EBREAK, Rd: 77})
	return api.Block{PC: b.PC, Ins: ins[:len(b.Ins)]}
}

// clone is a cache in memory of its own, with a block behind its length.
func clone(c api.Cache) api.Cache {
	blocks := make([]api.Block, 0, len(c.Blocks)+1)
	for _, b := range c.Blocks {
		blocks = append(blocks, cloneBlock(b))
	}
	blocks = append(blocks, api.Block{PC: 77, Ins: []api.Ins{{Op: 77}}})
	c.Blocks = blocks[:len(c.Blocks)]
	return c
}

// keptBlock says whether what clone laid behind a block's length is there.
func keptBlock(b api.Block) bool {
	return b.Ins[:len(b.Ins)+1][len(b.Ins)] == api.Ins{Op: api.EBREAK, Rd: 77}
}

// unchanged says whether a cache that clone made is as c, and what lies behind its lists' lengths as it was.
func unchanged(cloned, c api.Cache) bool {
	behind := cloned.Blocks[:len(cloned.Blocks)+1][len(cloned.Blocks)]
	return same(cloned, c) && sameBlock(behind, api.Block{PC: 77, Ins: []api.Ins{{Op: 77}}}) && !slices.ContainsFunc(cloned.Blocks, func(b api.Block) bool { return !keptBlock(b) })
}

// spoilBlock writes over all that a block's list reaches.
func spoilBlock(b api.Block) {
	all := b.Ins[:cap(b.Ins)]
	for k := range all {
		all[k] = api.Ins{Op: -1, Rd: -1, Rs1: -1, Rs2: -1, Imm: -1}
	}
}

// spoil writes over all that a cache's lists reach.
func spoil(c api.Cache) {
	all := c.Blocks[:cap(c.Blocks)]
	for k := range all {
		spoilBlock(all[k])
		all[k] = api.Block{PC: 1<<32 - 99}
	}
}

// apart says whether each block of a cache stays as it is, when all that another one's list reaches is written over. The cache is spoilt by that.
func apart(c api.Cache) bool {
	for k := range c.Blocks {
		was := clone(c)
		spoilBlock(c.Blocks[k])
		for j := range c.Blocks {
			if j > k && !sameBlock(c.Blocks[j], was.Blocks[j]) {
				return false
			}
		}
	}
	return true
}

// checkCache holds a cache that was answered against what is wanted, before and behind what was handed in is spoilt.
func checkCache(t *testing.T, name string, got, want api.Cache, spoilAll func()) {
	t.Helper()
	if !same(got, want) {
		t.Errorf("%s: %v, want %v", name, got, want)
		return
	}
	spoilAll()
	if !same(got, want) {
		t.Errorf("%s: memory of what was handed in: %v, want %v", name, got, want)
		return
	}
	if !apart(got) {
		t.Errorf("%s: lists that share memory: %v", name, got)
	}
}

// checkFind holds Find against what is wanted, and against P3.
func checkFind(t *testing.T, name string, c api.Cache, pc uint32, want api.Block, is bool) {
	t.Helper()
	given := clone(c)
	got, found := cache.Find(given, pc)
	if !sameBlock(got, want) || found != is {
		t.Errorf("%s: Find at %d: %v %v, want %v %v", name, pc, got, found, want, is)
	}
	if !unchanged(given, c) {
		t.Errorf("%s: Find at %d: what was handed in became %v", name, pc, given)
	}
	spoil(given)
	if !sameBlock(got, want) {
		t.Errorf("%s: Find at %d: memory of what was handed in: %v", name, pc, got)
	}
}

// checkPut holds Put against what is wanted, and against P3.
func checkPut(t *testing.T, name string, c api.Cache, b api.Block, want api.Cache) {
	t.Helper()
	given, put := clone(c), cloneBlock(b)
	got, e := cache.Put(given, put)
	if e != api.OK {
		t.Errorf("%s: Put: %v", name, e)
	}
	if !unchanged(given, c) || !sameBlock(put, b) || !keptBlock(put) {
		t.Errorf("%s: Put: what was handed in became %v, %v", name, given, put)
	}
	checkCache(t, name+": Put", got, want, func() { spoil(given); spoilBlock(put) })
}

// checkWrong holds a Put of what may not be put against P2 and P3.
func checkWrong(t *testing.T, name string, c api.Cache, b api.Block) {
	t.Helper()
	given, put := clone(c), cloneBlock(b)
	got, e := cache.Put(given, put)
	if e != api.ErrForm || !same(got, api.Cache{}) {
		t.Errorf("%s: Put of %d instructions: %v %v", name, len(b.Ins), got, e)
	}
	if !unchanged(given, c) || !sameBlock(put, b) || !keptBlock(put) {
		t.Errorf("%s: Put: what was handed in became %v, %v", name, given, put)
	}
}

// checkStale holds Stale against what is wanted, and against P3.
func checkStale(t *testing.T, name string, c api.Cache, r api.Range, want api.Cache) {
	t.Helper()
	given := clone(c)
	got := cache.Stale(given, r)
	if !unchanged(given, c) {
		t.Errorf("%s: Stale %v: what was handed in became %v", name, r, given)
	}
	checkCache(t, name+": Stale "+strconv.Itoa(int(r.From))+" "+strconv.Itoa(int(r.To)), got, want, func() { spoil(given) })
}

// put is Put of blocks in a row, all of which may be put.
func put(t *testing.T, c api.Cache, blocks ...api.Block) api.Cache {
	t.Helper()
	for _, b := range blocks {
		var e api.Errno
		if c, e = cache.Put(c, b); e != api.OK {
			t.Fatalf("Put of %v: %v", b, e)
		}
	}
	return c
}

// fresh is a new cache.
func fresh(t *testing.T, room int) api.Cache {
	t.Helper()
	c, e := cache.New(room)
	if e != api.OK {
		t.Fatalf("New(%d): %v", room, e)
	}
	return c
}

// TestExample: I2: the chapter's example, and the same with more room.
func TestExample(t *testing.T) {
	if c := put(t, fresh(t, 1), at(0, 8)...); !same(c, api.Cache{Room: 1, Blocks: at(8), Pushed: 1}) {
		t.Errorf("room 1: %v", c)
	}
	if c := put(t, fresh(t, 2), at(0, 8)...); !same(c, api.Cache{Room: 2, Blocks: at(0, 8)}) {
		t.Errorf("room 2: %v", c)
	}
	if c := put(t, fresh(t, 0), at(0, 8)...); !same(c, api.Cache{Pushed: 2}) {
		t.Errorf("room 0: %v", c)
	}
}

// TestNew: I1: rooms from 0 to MaxBlocks, and P2 of all others.
func TestNew(t *testing.T) {
	for room := -200; room <= 300; room++ {
		c, e := cache.New(room)
		if room >= 0 && room <= api.MaxBlocks {
			if e != api.OK || !same(c, api.Cache{Room: room}) {
				t.Errorf("New(%d): %v %v", room, c, e)
			}
		} else if e != api.ErrRange || !same(c, api.Cache{}) {
			t.Errorf("New(%d): %v %v", room, c, e)
		}
	}
	for _, room := range []int{math.MinInt, math.MinInt32, math.MaxInt32, 1 << 32, 1<<32 + 5, math.MaxInt} {
		if c, e := cache.New(room); e != api.ErrRange || !same(c, api.Cache{}) {
			t.Errorf("New(%d): %v %v", room, c, e)
		}
	}
}

// TestFind: I2: each block of a cache at its PC, and none at the places between, within a block or behind it.
func TestFind(t *testing.T) {
	c := api.Cache{Room: 9, Blocks: row(of(64, 3), of(0, 16), of(8, 1), of(ones, 2), of(1<<31, 4), of(68, 1)), Pushed: 3, Stale: 4}
	for _, b := range c.Blocks {
		checkFind(t, "there", c, b.PC, b, true)
	}
	for _, pc := range []uint32{1, 4, 7, 9, 12, 63, 65, 72, 76, 1<<31 - 1, 1<<31 + 1, 1<<31 + 8, ones - 1, ones - 3} {
		checkFind(t, "not there", c, pc, api.Block{}, false)
	}
	for _, pc := range []uint32{0, 1, 8, ones} {
		checkFind(t, "no blocks", api.Cache{Room: 9}, pc, api.Block{}, false)
		checkFind(t, "an empty cache", api.Cache{}, pc, api.Block{}, false)
	}
}

// TestPut: I2: a block goes behind all others, whatever its PC is; Pushed and Stale stay, while there is room.
func TestPut(t *testing.T) {
	c := api.Cache{Room: 4, Pushed: 5, Stale: 7}
	var want []api.Block
	for _, b := range row(of(80, 2), of(0, 16), of(ones, 1), of(40, 3)) {
		want = append(want, b)
		next := api.Cache{Room: 4, Blocks: slices.Clone(want), Pushed: 5, Stale: 7}
		checkPut(t, "room for it", c, b, next)
		c = next
	}
	checkPut(t, "no room for it", c, of(4, 1), api.Cache{Room: 4, Blocks: append(want[1:4:4], of(4, 1)), Pushed: 6, Stale: 7})
}

// TestPutWrong: I2: ErrForm of a block without instructions, or with more than MaxBlock, whatever the cache is; all between may be put.
func TestPutWrong(t *testing.T) {
	for name, c := range map[string]api.Cache{
		"new":      {Room: 3},
		"room 0":   {},
		"below 0":  {Room: -1, Pushed: 2},
		"its PC":   {Room: 3, Blocks: row(of(0, 1), of(12, 2)), Pushed: 2, Stale: 3},
		"full":     {Room: 2, Blocks: at(8, 16), Pushed: 2, Stale: 3},
		"too full": {Room: 1, Blocks: at(8, 16, 24)},
	} {
		for count := range 3*api.MaxBlock + 1 {
			if b := of(12, count); count == 0 || count > api.MaxBlock {
				checkWrong(t, name, c, b)
			} else if _, e := cache.Put(c, b); e != api.OK {
				t.Errorf("%s: Put of %d instructions: %v", name, count, e)
			}
		}
		checkWrong(t, name, c, api.Block{})
		checkWrong(t, name, c, of(ones, 1<<16))
	}
}

// TestPutAnyInstructions: I2: how many there are is all that is asked of them.
func TestPutAnyInstructions(t *testing.T) {
	for _, i := range []api.Ins{{}, {Op: -1, Rd: 99, Rs1: -5, Rs2: math.MaxInt, Imm: math.MinInt32}, {Op: api.EBREAK, Imm: 4}} {
		b := api.Block{PC: 3, Ins: []api.Ins{i, {Op: api.JAL}, i}}
		c := api.Cache{Room: 1, Blocks: row(b)}
		checkPut(t, "what is no instruction", api.Cache{Room: 1}, b, c)
		checkFind(t, "what is no instruction", c, 3, b, true)
	}
}

// TestPutAgain: I2: a block takes the place of the one of its PC, but as the last one; nothing is pushed out by that, also where the cache is full.
func TestPutAgain(t *testing.T) {
	blocks := row(of(0, 2), of(8, 1), of(16, 5), of(ones, 1))
	for k, b := range blocks {
		for _, count := range []int{1, 2, 5, api.MaxBlock} {
			for _, room := range []int{4, 5, api.MaxBlocks} {
				again := marked(b.PC, count, 9)
				left := append(slices.Delete(slices.Clone(blocks), k, k+1), again)
				c := api.Cache{Room: room, Blocks: blocks, Pushed: 2, Stale: 1}
				want := api.Cache{Room: room, Blocks: left, Pushed: 2, Stale: 1}
				checkPut(t, "again", c, again, want)
				checkFind(t, "again", want, b.PC, again, true)
			}
		}
		checkPut(t, "the same", api.Cache{Room: 4, Blocks: blocks}, b, api.Cache{Room: 4, Blocks: append(slices.Delete(slices.Clone(blocks), k, k+1), b)})
	}
}

// TestPushed: I2: of a full cache of each room the eldest goes, one by one, in the order in which they were put.
func TestPushed(t *testing.T) {
	for room := range api.MaxBlocks + 1 {
		c := fresh(t, room)
		var all []api.Block
		for k := range 2*api.MaxBlocks + 5 {
			b := of(uint32(4*(k*37%211)), 1+k%api.MaxBlock)
			all = append(all, b)
			c = put(t, c, b)
			gone := max(0, len(all)-room)
			if want := (api.Cache{Room: room, Blocks: all[gone:], Pushed: gone}); !same(c, want) {
				t.Fatalf("room %d: %v, want %v", room, c, want)
			}
		}
	}
}

// TestRoomNone: I2: of a cache of room 0 without blocks b itself is pushed out, again and again.
func TestRoomNone(t *testing.T) {
	for pushed := range 4 {
		c := api.Cache{Pushed: pushed, Stale: 6}
		checkPut(t, "room 0", c, of(4, 2), api.Cache{Pushed: pushed + 1, Stale: 6})
		checkFind(t, "room 0", put(t, c, of(4, 2)), 4, api.Block{}, false)
	}
	checkPut(t, "room 0, with its PC", api.Cache{Blocks: at(4)}, of(4, 2), api.Cache{Pushed: 1})
	checkPut(t, "room 0, with another", api.Cache{Blocks: at(8)}, of(4, 2), api.Cache{Blocks: row(of(4, 2)), Pushed: 1})
}
