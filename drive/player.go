package drive

import (
	"ferrybridge/api"
	"ferrybridge/asm"
	"ferrybridge/block"
	"ferrybridge/decode"
	"ferrybridge/engine"
	"ferrybridge/hart"
	"ferrybridge/undo"
)

// The answers that are always the same.
const (
	done    = "ok"
	refused = "?"
	none    = "no"
)

// player is a machine that lines work on, with the picks for its next run.
type player struct {
	api.Machine
	picks []api.Pick
	undos []api.Undo // of the last run that was not bad
	// undoable says whether undos may be taken back. Whether the machine is still as that run left it does not tell it: some lines end it though they change nothing.
	undoable bool
}

// command is a line's word, and how many numbers follow it.
type command struct {
	word  string
	count int
}

// answer does a line, and answers its answer.
func (p *player) answer(line string) string {
	word, n, ok := read(line)
	if !ok {
		return refused
	}
	if word == "words" {
		return p.words(n)
	}
	switch (command{word, len(n)}) {
	case command{"hart", 1}:
		return p.hart(n[0])
	case command{"set", 3}:
		return p.set(n[0], n[1], n[2])
	case command{"pick", 2}:
		return p.pick(n[0], n[1])
	case command{"run", 0}:
		return p.run()
	case command{"fast", 1}:
		return p.fast(n[0])
	case command{"hart?", 1}:
		return p.shown(n[0])
	case command{"what", 1}:
		return what(n[0])
	case command{"block", 1}:
		return joined(told(len(block.Make(p.Memory, n[0]).Ins)))
	case command{"show", 1}:
		return p.show(n[0])
	case command{"back", 1}:
		return p.back(n[0])
	}
	return refused
}

func (p *player) words(numbers []uint32) string {
	p.undoable = false
	if len(numbers) > (api.MaxMemory-len(p.Memory))/4 {
		return refused
	}
	for _, n := range numbers {
		p.Memory = append(p.Memory, byte(n), byte(n>>8), byte(n>>16), byte(n>>24))
	}
	return named(done, len(p.Memory))
}

func (p *player) hart(pc uint32) string {
	if len(p.Harts) >= api.MaxHarts {
		return refused
	}
	p.undoable = false
	p.Harts = append(p.Harts, api.Hart{PC: pc})
	return named(done, len(p.Harts))
}

func (p *player) set(number, register, w uint32) string {
	p.undoable = false
	if !p.there(number) || register < 1 || register > 31 {
		return refused
	}
	p.Harts[number].Regs[register] = w
	return done
}

// pick does not ask whether there is such a hart: it may be made ahead of the run.
func (p *player) pick(number, steps uint32) string {
	if len(p.picks) >= api.MaxScript {
		return refused
	}
	p.picks = append(p.picks, api.Pick{Hart: int(number), Steps: int(steps)})
	return named(done, len(p.picks))
}

// run asks undo.Run alone, which shows what machine.Run does.
func (p *player) run() string {
	s, undos, wrong := undo.Run(p.Machine, p.picks)
	if wrong == api.OK {
		p.undos, p.undoable = undos, true
	}
	return p.ran(s, wrong)
}

func (p *player) fast(room uint32) string {
	p.undoable = false
	s, _, wrong := engine.Run(p.Machine, p.picks, int(room))
	return p.ran(s, wrong)
}

// ran goes on with what a run shows, if nothing was wrong with it.
func (p *player) ran(s api.Shown, wrong api.Errno) string {
	if wrong != api.OK {
		return named("bad", wrong)
	}
	p.Machine = s.Machine
	p.picks = nil
	return joined([]string{"ran"}, told(s.Steps), told(s.Out...))
}

func (p *player) shown(number uint32) string {
	if !p.there(number) {
		return refused
	}
	h := p.Harts[number]
	return joined(told(h.State, h.Cause), told(h.PC), told(h.Regs[:]...))
}

func what(w uint32) string {
	i, ok := decode.Decode(w)
	if !ok {
		return none
	}
	return joined([]string{"is"}, told(i.Op, i.Rd, i.Rs1, i.Rs2), told(uint32(i.Imm)))
}

func (p *player) show(pc uint32) string {
	i, cause := hart.Fetch(p.Memory, pc)
	if cause != 0 {
		return none
	}
	text, _ := asm.Print(i)
	return text
}

func (p *player) back(steps uint32) string {
	if !p.undoable {
		return refused
	}
	m, wrong := undo.Back(p.Machine, p.undos, int(steps))
	if wrong != api.OK {
		return refused
	}
	p.Machine = m
	p.undoable = false
	return done
}

// there says whether there is a hart of that number.
func (p *player) there(number uint32) bool { return number < uint32(len(p.Harts)) }
