package engine

import (
	"maps"
	"slices"

	"ferrybridge/api"
	"ferrybridge/block"
	"ferrybridge/cache"
	"ferrybridge/machine"
	"ferrybridge/micro"
	"ferrybridge/trans"
)

// engine is a board whose harts work by blocks.
type engine struct {
	machine.Board
	kept api.Cache
	code map[uint32][]api.Micro // the small steps of each block that is kept, by its PC
}

// turn does a pick, block by block.
func (e *engine) turn(p api.Pick) {
	for p.Steps > 0 && e.Machine.Harts[p.Hart].State == api.Runs {
		did := e.stretch(p)
		e.Take(p.Hart, did)
		e.discard(did.Stores)
		p.Steps -= did.Steps
	}
}

// stretch answers what p's hart would do now, within one block. It is one step at least, so that a pick comes to its end: where no instruction is, and so no small step, the board's own work lets the hart trap.
func (e *engine) stretch(p api.Pick) api.Did {
	h := e.Machine.Harts[p.Hart]
	b, code := e.blockAt(h.PC)
	did, ok := micro.Run(code, h, e.Machine.Memory, block.Bytes(b), p.Steps)
	if !ok || did.Steps == 0 {
		return e.Work(api.Pick{Hart: p.Hart, Steps: 1})
	}
	return did
}

// blockAt answers the block at pc and its small steps: those that are kept, else new ones, that are kept from now on.
func (e *engine) blockAt(pc uint32) (api.Block, []api.Micro) {
	if b, ok := cache.Find(e.kept, pc); ok {
		return b, e.code[pc]
	}
	b := block.Make(e.Machine.Memory, pc)
	code := trans.Make(b)
	e.keep(b, code)
	return b, code
}

// keep puts a block among those that are kept. One without an instruction is refused there.
func (e *engine) keep(b api.Block, code []api.Micro) {
	c, wrong := cache.Put(e.kept, b)
	if wrong != api.OK {
		return
	}
	e.kept = c
	e.code[b.PC] = code
	// Another block may have been pushed out for it, or, with no room at all, itself.
	e.forget()
}

// discard throws away the blocks that have a byte of what was stored in.
func (e *engine) discard(stores []api.Range) {
	was := e.kept.Stale
	for _, r := range stores {
		e.kept = cache.Stale(e.kept, r)
	}
	if e.kept.Stale != was {
		e.forget()
	}
}

// forget throws away the small steps of blocks that are kept no more.
func (e *engine) forget() {
	maps.DeleteFunc(e.code, func(pc uint32, _ []api.Micro) bool {
		return !slices.ContainsFunc(e.kept.Blocks, at(pc))
	})
}

// at asks of a block whether it is the one at pc.
func at(pc uint32) func(api.Block) bool {
	return func(b api.Block) bool { return b.PC == pc }
}
