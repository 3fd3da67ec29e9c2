package machine

import (
	"bytes"
	"slices"

	"ferrybridge/api"
	"ferrybridge/hart"
)

// Board is a machine at its work, with what it shows so far.
type Board struct {
	api.Shown
}

// NewBoard is a board of a machine of its own, that is as m, and OK, if script can be done on it; else an empty one, and what is wrong.
func NewBoard(m api.Machine, script []api.Pick) (Board, api.Errno) {
	if e := wrong(m, script); e != api.OK {
		return Board{}, e
	}
	var b Board
	b.Machine = api.Machine{Memory: bytes.Clone(m.Memory), Harts: slices.Clone(m.Harts)}
	return b, api.OK
}

// Work answers what p's hart would do now. The board stays as it is: a core works on a new memory from its first store on, so that the board's need not be copied for it.
func (b *Board) Work(p api.Pick) api.Did {
	c := hart.Core{Hart: b.Machine.Harts[p.Hart], Memory: b.Machine.Memory}
	done := 0
	for done < p.Steps && c.State == api.Runs {
		c.Step()
		done++
	}
	return api.Did{Hart: c.Hart, Memory: c.Memory, Out: c.Out, Steps: done, Stores: c.Stores}
}

// Take makes true what the hart of that number did. The others did nothing meanwhile, so that it is all the same whether they lose what they had reserved now, or step by step.
func (b *Board) Take(number int, did api.Did) {
	for _, r := range did.Stores {
		for _, l := range b.Lost(number, r) {
			b.Machine.Harts[l.Hart].Held = false
			b.Machine.Harts[l.Hart].HeldAt = 0
		}
	}
	b.Machine.Harts[number] = did.Hart
	b.Machine.Memory = did.Memory
	b.Out = append(b.Out, did.Out...)
	b.Steps += did.Steps
}

// Lost are the harts, by number, rising, that lose what they have reserved, if the one of that number stores in the bytes r.
func (b *Board) Lost(number int, r api.Range) []api.Lost {
	var lost []api.Lost
	for k, h := range b.Machine.Harts {
		if k != number && h.Held && meets(h.HeldAt, r) {
			lost = append(lost, api.Lost{Hart: k, At: h.HeldAt})
		}
	}
	return lost
}

// meets says whether a byte of the word at at is one of r. It adds in 64 bits, so that a word near 2^32 does not go round to low bytes.
func meets(at uint32, r api.Range) bool {
	return at < r.To && uint64(r.From) < uint64(at)+4
}
