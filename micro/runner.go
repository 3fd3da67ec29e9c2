package micro

import (
	"slices"

	"ferrybridge/api"
	"ferrybridge/hart"
	"ferrybridge/word"
)

// runner is a core that does small steps in place of instructions. The hart's PC stays as it was till it stops.
type runner struct {
	hart.Core
	temps [api.Temps]uint32 // registers from 32 on
	own   api.Range
	steps int    // instructions that may be done
	done  int    // instructions that are done
	here  uint32 // where the one that is being done stands
}

// newRunner is a runner at its beginning; false, where the hart can do no step.
func newRunner(h api.Hart, memory []byte, own api.Range, steps int) (runner, bool) {
	c, ok := hart.NewCore(h, memory)
	return runner{Core: c, own: own, steps: steps, here: h.PC}, ok
}

// run does small steps till one of them stops it.
func (r *runner) run(code []api.Micro) {
	for _, m := range code {
		if !r.goesOn(m) {
			return
		}
	}
	if r.done > 0 {
		r.PC = r.here + 4
	}
}

// goesOn does a small step, and says whether the next one is to be done.
func (r *runner) goesOn(m api.Micro) bool {
	if to, leaves := r.leaves(m); leaves {
		r.PC = to
		return false
	}
	r.do(m)
	if r.State != api.Runs {
		r.PC = r.here
		return false
	}
	return true
}

// leaves answers where PC goes, and true, if a small step is one that makes it go there now.
func (r *runner) leaves(m api.Micro) (uint32, bool) {
	switch {
	case m.Op == api.MAt:
		return m.N, r.done == r.steps || r.storedInOwn()
	case m.Op == api.MGo:
		return m.N, true
	case m.Op == api.MGoReg:
		return (r.value(m.A) + m.N) &^ 1, true
	}
	return m.N, word.Holds(m.Op-api.MIf, r.value(m.A), r.value(m.B))
}

// storedInOwn says whether a byte of own was stored in.
func (r *runner) storedInOwn() bool {
	return slices.ContainsFunc(r.Stores, func(s api.Range) bool {
		return max(s.From, r.own.From) < min(s.To, r.own.To)
	})
}

// do does a small step that does not leave.
func (r *runner) do(m api.Micro) {
	switch m.Op {
	case api.MAt:
		r.done++
		r.here = m.N
	case api.MCall:
		r.Call()
	case api.MBreak:
		r.Trap(api.CauseBreak)
	default:
		if w, ok := r.effect(m); ok {
			r.become(m.D, w)
		}
	}
}

// effect answers what D becomes, if it becomes anything. It reads the registers ahead of that, since D may be one of them.
func (r *runner) effect(m api.Micro) (uint32, bool) {
	a, b := r.value(m.A), r.value(m.B)
	switch {
	case m.Op == api.MSet:
		return m.N, true
	case within(m.Op, api.MLoad+api.LB, api.MLoad+api.LHU):
		return r.Load(m.Op-api.MLoad, a+m.N)
	case within(m.Op, api.MStore+api.SB, api.MStore+api.SW):
		r.Store(m.Op-api.MStore, a+m.N, b)
	case within(m.Op, api.MAlu+api.ADD, api.MAlu+api.REMU):
		return word.Alu(m.Op-api.MAlu, a, b), true
	case within(m.Op, api.MAluN+api.ADD, api.MAluN+api.REMU):
		return word.Alu(m.Op-api.MAluN, a, m.N), true
	case within(m.Op, api.MAtom+api.LRW, api.MAtom+api.AMOMAXU):
		return r.Atom(m.Op-api.MAtom, a, b)
	}
	return 0, false
}

// value is what a register is, the hart's or the runner's own.
func (r *runner) value(register int) uint32 {
	if register < len(r.Regs) {
		return r.Regs[register]
	}
	return r.temps[register-len(r.Regs)]
}

// become makes a register w, the hart's or the runner's own.
func (r *runner) become(register int, w uint32) {
	if register < len(r.Regs) {
		r.Set(register, w)
		return
	}
	r.temps[register-len(r.Regs)] = w
}
