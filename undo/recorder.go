package undo

import (
	"bytes"

	"ferrybridge/api"
	"ferrybridge/machine"
)

// recorder is a board that keeps how each step of its harts can be taken back.
type recorder struct {
	machine.Board
	undos []api.Undo
}

// turn does a pick, step by step.
func (r *recorder) turn(p api.Pick) {
	for range p.Steps {
		if r.Machine.Harts[p.Hart].State != api.Runs {
			return
		}
		r.step(p.Hart)
	}
}

// step lets the hart of that number do one step. What it stored in, and who loses by that, is asked of the board ahead of Take, which makes it true.
func (r *recorder) step(number int) {
	u := api.Undo{Hart: number, Was: r.Machine.Harts[number]}
	did := r.Work(api.Pick{Hart: number, Steps: 1})
	for _, stored := range did.Stores {
		u.From = stored.From
		u.Bytes = bytes.Clone(r.Machine.Memory[stored.From:stored.To])
		u.Lost = r.Lost(number, stored)
	}
	r.Take(number, did)
	r.undos = append(r.undos, u)
}
