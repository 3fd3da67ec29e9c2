package cache_test

import (
	"testing"

	"ferrybridge/api"
)

// has says whether a block has a byte from one to below another, by going through all its bytes.
func has(b api.Block, r api.Range) bool {
	first := uint64(b.PC)
	for at := first; at < first+4*uint64(len(b.Ins)); at++ {
		if at >= uint64(r.From) && at < uint64(r.To) {
			return true
		}
	}
	return false
}

// left is what Stale is to leave of a cache.
func left(c api.Cache, r api.Range) api.Cache {
	out := api.Cache{Room: c.Room, Pushed: c.Pushed, Stale: c.Stale}
	for _, b := range c.Blocks {
		if has(b, r) {
			out.Stale++
		} else {
			out.Blocks = append(out.Blocks, b)
		}
	}
	return out
}

// TestStaleEdges: I2: ranges that touch a block at its first or last byte only, or just not; empty ones and such as are turned round.
func TestStaleEdges(t *testing.T) {
	c := api.Cache{Room: 4, Blocks: row(of(40, 3)), Pushed: 1, Stale: 2}
	gone := api.Cache{Room: 4, Pushed: 1, Stale: 3}
	for _, e := range []struct {
		from, to uint32
		want     api.Cache
	}{
		{40, 41, gone}, {0, 41, gone}, {39, 41, gone}, {51, 52, gone}, {51, ones, gone}, {51, 53, gone},
		{40, 52, gone}, {0, ones, gone}, {44, 48, gone}, {45, 46, gone}, {39, 53, gone},
		{39, 40, c}, {0, 40, c}, {52, 53, c}, {52, ones, c}, {ones - 1, ones, c}, {0, 1, c},
		{0, 0, c}, {40, 40, c}, {45, 45, c}, {51, 51, c}, {52, 52, c}, {ones, ones, c},
		{41, 40, c}, {52, 40, c}, {46, 45, c}, {53, 39, c}, {ones, 0, c}, {ones, 46, c}, {45, 0, c},
	} {
		checkStale(t, "an edge", c, api.Range{From: e.from, To: e.to}, e.want)
	}
}

// TestStaleEach: I2: all ranges near blocks that lie apart, side by side and over each other, against their bytes one by one; their places are not multiples of 4 alone.
func TestStaleEach(t *testing.T) {
	for _, first := range []uint32{0, 8, 9, 1<<31 - 16, 1 << 31, ones - 60} {
		c := api.Cache{Room: 8, Blocks: row(of(first+24, 2), of(first, 1), of(first+12, 3), of(first+7, 4)), Pushed: 3, Stale: 5}
		for from := range uint32(40) {
			for to := range uint32(40) {
				r := api.Range{From: first + from, To: first + to}
				checkStale(t, "near", c, r, left(c, r))
			}
		}
	}
}

// TestStaleHigh: I2: blocks at the upper end of the places, where their bytes end with the last place, or go beyond it: they are not at 0 again.
func TestStaleHigh(t *testing.T) {
	var places []uint32
	for back := range uint32(14) {
		places = append(places, ones-back, back)
	}
	for back := range uint32(14) {
		for count := 1; count < 4; count++ {
			c := api.Cache{Room: 1, Blocks: row(of(ones-back, count))}
			for _, from := range places {
				for _, to := range places {
					r := api.Range{From: from, To: to}
					checkStale(t, "high", c, r, left(c, r))
				}
			}
		}
	}
	last := api.Cache{Room: 1, Blocks: at(ones - 3)}
	checkStale(t, "the last word", last, api.Range{From: ones - 3, To: ones - 2}, api.Cache{Room: 1, Stale: 1})
	checkStale(t, "the last word", last, api.Range{From: ones - 1, To: ones}, api.Cache{Room: 1, Stale: 1})
	checkStale(t, "the last word", last, api.Range{From: 0, To: ones - 3}, last)
	round := api.Cache{Room: 1, Blocks: row(of(ones-3, api.MaxBlock))}
	checkStale(t, "beyond the last place", round, api.Range{From: 0, To: 60}, round)
}

// TestStaleMany: I2: each block that is touched is counted, and those that are not stay in their order; Pushed and Room stay.
func TestStaleMany(t *testing.T) {
	c := api.Cache{Room: 7, Blocks: row(of(48, 4), of(0, 2), of(32, 4), of(16, 16), of(8, 1), of(80, 1), of(44, 1)), Pushed: 11, Stale: 13}
	for _, e := range []struct {
		from, to uint32
		want     []api.Block
	}{
		{0, 100, nil},
		{44, 48, row(c.Blocks[0], c.Blocks[1], c.Blocks[4], c.Blocks[5])},
		{12, 16, c.Blocks},
		{8, 12, row(c.Blocks[0], c.Blocks[1], c.Blocks[2], c.Blocks[3], c.Blocks[5], c.Blocks[6])},
		{0, 16, row(c.Blocks[0], c.Blocks[2], c.Blocks[3], c.Blocks[5], c.Blocks[6])},
		{63, 81, row(c.Blocks[1], c.Blocks[2], c.Blocks[4], c.Blocks[6])},
		{84, ones, c.Blocks},
	} {
		want := api.Cache{Room: 7, Blocks: e.want, Pushed: 11, Stale: 13 + 7 - len(e.want)}
		checkStale(t, "many", c, api.Range{From: e.from, To: e.to}, want)
	}
}

// TestStaleNone: I2: of a cache without blocks nothing goes.
func TestStaleNone(t *testing.T) {
	for _, c := range []api.Cache{{}, {Room: 5}, {Room: 64, Pushed: 2, Stale: 3}, {Room: -4, Pushed: -2, Stale: -3}} {
		for _, r := range []api.Range{{}, {From: 0, To: ones}, {From: ones, To: 0}, {From: 4, To: 8}} {
			checkStale(t, "no blocks", c, r, c)
		}
	}
}
