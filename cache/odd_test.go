package cache_test

import (
	"math"
	"testing"

	"ferrybridge/api"
	"ferrybridge/cache"
)

// Caches that no program keeps are done as the chapter says all the same.

// TestTwoOfOnePC: I2: of two blocks of one PC the first one is found, and the first one gives way.
func TestTwoOfOnePC(t *testing.T) {
	one, two, other, b := marked(8, 2, 1), marked(8, 3, 2), of(40, 1), marked(8, 1, 3)
	c := api.Cache{Room: 5, Blocks: row(other, one, two, one)}
	checkFind(t, "two", c, 8, one, true)
	checkPut(t, "two", c, b, api.Cache{Room: 5, Blocks: row(other, two, one, b)})
	checkFind(t, "two, then another", put(t, c, b), 8, two, true)
	checkPut(t, "the others stay", c, of(44, 1), api.Cache{Room: 5, Blocks: row(other, one, two, one, of(44, 1))})
	c.Room = 3
	checkPut(t, "two, too full", c, b, api.Cache{Room: 3, Blocks: row(two, one, b), Pushed: 1})
	c = api.Cache{Room: 2, Blocks: row(one, two), Stale: 1}
	checkPut(t, "full of one PC", c, b, api.Cache{Room: 2, Blocks: row(two, b), Stale: 1})
	c.Room = 1
	checkPut(t, "too full of one PC", c, b, api.Cache{Room: 1, Blocks: row(b), Pushed: 1, Stale: 1})
	checkStale(t, "two, one byte", c, api.Range{From: 16, To: 17}, api.Cache{Room: 1, Blocks: row(one), Stale: 2})
	checkStale(t, "two, both", c, api.Range{From: 15, To: 16}, api.Cache{Room: 1, Stale: 3})
}

// TestTooFull: I2: of a cache with more blocks than Room one goes at each Put, no more.
func TestTooFull(t *testing.T) {
	blocks := at(0, 8, 16, 24, 32)
	for room := range 5 {
		c := api.Cache{Room: room, Blocks: blocks, Pushed: 4}
		checkPut(t, "too full", c, of(40, 2), api.Cache{Room: room, Blocks: row(blocks[1], blocks[2], blocks[3], blocks[4], of(40, 2)), Pushed: 5})
		checkPut(t, "too full, the first one again", c, of(0, 2), tooFull(room, row(blocks[1], blocks[2], blocks[3], blocks[4], of(0, 2))))
		checkPut(t, "too full, another one again", c, of(16, 2), tooFull(room, row(blocks[0], blocks[1], blocks[3], blocks[4], of(16, 2))))
		checkStale(t, "too full", c, api.Range{From: 9, To: 17}, api.Cache{Room: room, Blocks: row(blocks[0], blocks[3], blocks[4]), Pushed: 4, Stale: 2})
		checkFind(t, "too full", c, 32, blocks[4], true)
	}
	for room := 5; room < 7; room++ {
		c := api.Cache{Room: room, Blocks: blocks}
		checkPut(t, "full enough", c, of(0, 2), api.Cache{Room: room, Blocks: row(blocks[1], blocks[2], blocks[3], blocks[4], of(0, 2))})
	}
}

// tooFull is a cache of five blocks and less room, Pushed 4, behind the first one of them is pushed out.
func tooFull(room int, blocks []api.Block) api.Cache {
	return api.Cache{Room: room, Blocks: blocks[1:], Pushed: 5}
}

// TestManyBlocks: I2: a cache of far more blocks than MaxBlocks, and a Room beyond it.
func TestManyBlocks(t *testing.T) {
	var blocks []api.Block
	for k := range 1000 {
		blocks = append(blocks, of(uint32(4*k), 1))
	}
	last := of(ones, 1)
	c := api.Cache{Room: api.MaxBlocks, Blocks: blocks}
	checkPut(t, "many", c, last, api.Cache{Room: api.MaxBlocks, Blocks: append(blocks[1:1000:1000], last), Pushed: 1})
	checkFind(t, "many", c, 3996, blocks[999], true)
	checkStale(t, "many", c, api.Range{From: 3, To: 3997}, api.Cache{Room: api.MaxBlocks, Stale: 1000})
	for _, room := range []int{1001, 1 << 32, math.MaxInt} {
		c.Room = room
		checkPut(t, "much room", c, last, api.Cache{Room: room, Blocks: append(blocks[:1000:1000], last)})
	}
}

// TestOddBlocks: I2: blocks without instructions have no bytes, those with too many have them all; they are found and pushed out as all others are.
func TestOddBlocks(t *testing.T) {
	none, many, huge := of(20, 0), of(100, 40), of(1000, 5000)
	c := api.Cache{Room: 3, Blocks: row(none, many, huge)}
	for _, b := range c.Blocks {
		checkFind(t, "odd", c, b.PC, b, true)
	}
	checkFind(t, "no instruction, then one", api.Cache{Room: 2, Blocks: row(none, of(20, 1))}, 20, none, true)
	checkPut(t, "one more", c, of(4, 1), api.Cache{Room: 3, Blocks: row(many, huge, of(4, 1)), Pushed: 1})
	checkPut(t, "in place of none", c, of(20, 1), api.Cache{Room: 3, Blocks: row(many, huge, of(20, 1))})
	checkPut(t, "in place of many", c, of(100, 1), api.Cache{Room: 3, Blocks: row(none, huge, of(100, 1))})
	for _, r := range []api.Range{{From: 20, To: 21}, {From: 20, To: 24}, {From: 0, To: 100}, {From: 19, To: 21}, {From: 260, To: 1000}, {From: 21000, To: ones}} {
		checkStale(t, "none of their bytes", c, r, c)
	}
	for _, r := range []api.Range{{From: 259, To: 260}, {From: 200, To: 300}, {From: 0, To: 101}} {
		checkStale(t, "many", c, r, api.Cache{Room: 3, Blocks: row(none, huge), Stale: 1})
	}
	checkStale(t, "a huge one's last byte", c, api.Range{From: 20999, To: ones}, api.Cache{Room: 3, Blocks: row(none, many), Stale: 1})
	checkStale(t, "all", c, api.Range{From: 0, To: ones}, api.Cache{Room: 3, Blocks: row(none), Stale: 2})
	high := api.Cache{Room: 3, Blocks: row(of(ones, 0), of(ones-100, 1000))}
	checkStale(t, "high", high, api.Range{From: ones - 1, To: ones}, api.Cache{Room: 3, Blocks: row(of(ones, 0)), Stale: 1})
	checkStale(t, "high", high, api.Range{From: 0, To: ones - 100}, high)
}

// TestRoomBelow: I2: a Room below 0 has room for nothing: one goes at each Put, and Room stays.
func TestRoomBelow(t *testing.T) {
	for _, room := range []int{-1, -2, -64, math.MinInt32, math.MinInt} {
		c := api.Cache{Room: room, Pushed: 3}
		checkPut(t, "below 0", c, of(4, 1), api.Cache{Room: room, Pushed: 4})
		c.Blocks = at(8, 16)
		checkPut(t, "below 0, with blocks", c, of(4, 1), api.Cache{Room: room, Blocks: at(16, 4), Pushed: 4})
		checkPut(t, "below 0, with its PC", c, of(16, 2), api.Cache{Room: room, Blocks: row(of(16, 2)), Pushed: 4})
		checkFind(t, "below 0", c, 16, of(16, 1), true)
		checkStale(t, "below 0", c, api.Range{From: 10, To: 11}, api.Cache{Room: room, Blocks: at(16), Pushed: 3, Stale: 1})
	}
}

// TestOddCounts: I2: Pushed and Stale are 1 more, whatever they were; each stays, where the other one is counted.
func TestOddCounts(t *testing.T) {
	for _, n := range []int{math.MinInt, -7, -1, 0, 1 << 31, 1 << 40, math.MaxInt - 1} {
		c := api.Cache{Room: 1, Blocks: at(8), Pushed: n, Stale: n}
		checkPut(t, "counts", c, of(4, 1), api.Cache{Room: 1, Blocks: at(4), Pushed: n + 1, Stale: n})
		checkPut(t, "counts, its PC", c, of(8, 2), api.Cache{Room: 1, Blocks: row(of(8, 2)), Pushed: n, Stale: n})
		checkStale(t, "counts", c, api.Range{From: 8, To: 9}, api.Cache{Room: 1, Pushed: n, Stale: n + 1})
		checkStale(t, "counts, none", c, api.Range{From: 12, To: 99}, c)
	}
	// P1: at the end of the numbers it is not said how it goes on, but that it ends.
	c := api.Cache{Blocks: at(8), Pushed: math.MaxInt, Stale: math.MaxInt}
	if d, e := cache.Put(c, of(4, 1)); e != api.OK || len(d.Blocks) != 1 {
		t.Errorf("Put: %v %v", d, e)
	}
	if d := cache.Stale(c, api.Range{From: 8, To: 9}); len(d.Blocks) != 0 {
		t.Errorf("Stale: %v", d)
	}
}

// TestSharedWithin: P3: blocks that share memory with each other, and with the one that is put, come out apart.
func TestSharedWithin(t *testing.T) {
	ins := of(8, api.MaxBlock).Ins
	given := func() api.Cache {
		return api.Cache{Room: 4, Blocks: row(api.Block{PC: 8, Ins: ins}, api.Block{PC: 80, Ins: ins}, api.Block{PC: 160, Ins: ins[3:]}, api.Block{PC: 300, Ins: ins[:0]})}
	}
	b := api.Block{PC: 400, Ins: ins[1:5]}
	want := clone(api.Cache{Room: 4, Blocks: append(given().Blocks[1:], b), Pushed: 1})
	unspoilt := clone(given())
	c, e := cache.Put(given(), b)
	if e != api.OK {
		t.Errorf("Put: %v", e)
	}
	d := cache.Stale(given(), api.Range{})
	spoilBlock(api.Block{Ins: ins})
	checkCache(t, "shared: Put", c, want, func() {})
	checkCache(t, "shared: Stale", d, unspoilt, func() {})
}
