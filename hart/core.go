package hart

import (
	"bytes"

	"ferrybridge/api"
	"ferrybridge/decode"
	"ferrybridge/mem"
	"ferrybridge/word"
)

// Core is a hart at its work: with the memory that it works on, what came out, and in which bytes it stored, in order.
type Core struct {
	api.Hart
	Memory []byte
	Out    []uint32
	Stores []api.Range
}

// sizes are how many bytes each store stores in.
var sizes = [...]uint32{api.SB: 1, api.SH: 2, api.SW: 4}

// operations are what the instructions that take Imm as their second number reckon.
var operations = [...]int{
	api.ADDI: api.ADD, api.SLTI: api.SLT, api.SLTIU: api.SLTU,
	api.XORI: api.XOR, api.ORI: api.OR, api.ANDI: api.AND,
	api.SLLI: api.SLL, api.SRLI: api.SRL, api.SRAI: api.SRA,
}

// NewCore is a core of a hart that runs, on a memory of its own; false, where no step can be done (D1).
func NewCore(h api.Hart, memory []byte) (Core, bool) {
	if !May(h) || h.State != api.Runs || len(memory) > api.MaxMemory {
		return Core{}, false
	}
	return Core{Hart: h, Memory: bytes.Clone(memory)}, true
}

// Fetch answers the instruction at pc, and 0; else an empty one, and the cause by which a hart traps there.
func Fetch(memory []byte, pc uint32) (api.Ins, int) {
	w, ok := mem.Load(memory, api.LW, pc)
	if !ok {
		return api.Ins{}, api.CauseFetch
	}
	i, ok := decode.Decode(w)
	if !ok {
		return api.Ins{}, api.CauseWord
	}
	return i, 0
}

// Step does one step of a hart that runs.
func (c *Core) Step() {
	i, cause := Fetch(c.Memory, c.PC)
	if cause != 0 {
		c.Trap(cause)
		return
	}
	c.do(i)
}

// do reads the registers and finds the next place ahead of all else, since Rd may be one of those that are read.
func (c *Core) do(i api.Ins) {
	a, b, n := c.Regs[i.Rs1], c.Regs[i.Rs2], uint32(i.Imm)
	next := c.next(i.Op, a, b, n)
	if w, ok := c.effect(i.Op, a, b, n); ok {
		c.Set(i.Rd, w)
	}
	if c.State == api.Runs {
		c.PC = next
	}
}

// next is where the hart goes on behind an instruction.
func (c *Core) next(op int, a, b, n uint32) uint32 {
	if op == api.JALR {
		return (a + n) &^ 1
	}
	if op == api.JAL || word.Holds(op, a, b) {
		return c.PC + n
	}
	return c.PC + 4
}

// effect does all of an instruction but its jump, and answers what Rd becomes, if it becomes anything.
func (c *Core) effect(op int, a, b, n uint32) (uint32, bool) {
	switch {
	case op == api.LUI:
		return n, true
	case op == api.AUIPC:
		return c.PC + n, true
	case op == api.JAL, op == api.JALR:
		return c.PC + 4, true
	case within(op, api.LB, api.LHU):
		return c.Load(op, a+n)
	case within(op, api.SB, api.SW):
		c.Store(op, a+n, b)
	case within(op, api.ADDI, api.SRAI):
		return word.Alu(operations[op], a, n), true
	case within(op, api.ADD, api.REMU):
		return word.Alu(op, a, b), true
	case within(op, api.LRW, api.AMOMAXU):
		return c.Atom(op, a, b)
	case op == api.ECALL:
		c.Call()
	case op == api.EBREAK:
		c.Trap(api.CauseBreak)
	}
	return 0, false
}

// Trap leaves all but State and Cause as it was, so that it must come ahead of any change.
func (c *Core) Trap(cause int) {
	c.State, c.Cause = api.Trapped, cause
}

// Set makes a register w; register 0 stays 0.
func (c *Core) Set(register int, w uint32) {
	if register != 0 {
		c.Regs[register] = w
	}
}

// Load answers what the load op reads at at, and true; else the hart traps.
func (c *Core) Load(op int, at uint32) (uint32, bool) {
	w, ok := mem.Load(c.Memory, op, at)
	if !ok {
		c.Trap(api.CauseLoad)
	}
	return w, ok
}

// Store puts w at at as the store op does, or the hart traps. What the hart has reserved stays so: only others lose theirs by it.
func (c *Core) Store(op int, at, w uint32) {
	stored, ok := mem.Store(c.Memory, op, at, w)
	if !ok {
		c.Trap(api.CauseStore)
		return
	}
	c.Memory = stored
	c.Stores = append(c.Stores, api.Range{From: at, To: at + sizes[op]})
}

// Atom does the atomic instruction op on the word at a, with b, and answers what Rd becomes, and true; else the hart traps.
func (c *Core) Atom(op int, a, b uint32) (uint32, bool) {
	if op == api.LRW {
		return c.reserve(a)
	}
	old, ok := mem.Load(c.Memory, api.LW, a)
	if !ok {
		c.Trap(api.CauseStore)
		return 0, false
	}
	if op == api.SCW {
		return c.storeHeld(a, b), true
	}
	c.Store(api.SW, a, word.Amo(op, old, b))
	return old, true
}

// reserve is LRW.
func (c *Core) reserve(a uint32) (uint32, bool) {
	w, ok := c.Load(api.LW, a)
	if ok {
		c.Held, c.HeldAt = true, a
	}
	return w, ok
}

// storeHeld is SCW, where a word is; it answers what Rd becomes.
func (c *Core) storeHeld(a, b uint32) uint32 {
	held := c.Held && c.HeldAt == a
	c.Held, c.HeldAt = false, 0
	if !held {
		return 1
	}
	c.Store(api.SW, a, b)
	return 0
}

// Call is ECALL.
func (c *Core) Call() {
	switch c.Regs[17] {
	case 0:
		c.State = api.Halted
	case 1:
		c.Out = append(c.Out, c.Regs[10])
	default:
		c.Trap(api.CauseCall)
	}
}
