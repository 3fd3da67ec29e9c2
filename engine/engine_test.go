package engine_test

import (
	"bytes"
	"math"
	"slices"
	"testing"

	"ferrybridge/api"
	"ferrybridge/block"
	"ferrybridge/decode"
	"ferrybridge/engine"
	"ferrybridge/machine"
)

const ones = uint32(1<<32 - 1)

// rooms are those that each machine of these tests is run with.
var rooms = []int{0, 1, 2, 5, api.MaxBlocks}

func encoded(t *testing.T, i api.Ins) uint32 {
	t.Helper()
	w, e := decode.Encode(i)
	if e != api.OK {
		t.Fatalf("Encode(%v): %v", i, e)
	}
	return w
}

// lay answers a copy of a memory in which the words of instructions stand from at on.
func lay(t *testing.T, m []byte, at int, program ...api.Ins) []byte {
	t.Helper()
	out := bytes.Clone(m)
	for k, i := range program {
		put(out, at+4*k, encoded(t, i))
	}
	return out
}

func put(m []byte, at int, w uint32) {
	for k := range 4 {
		m[at+k] = byte(w >> (8 * k))
	}
}

func wordAt(m []byte, at int) uint32 {
	return uint32(m[at]) | uint32(m[at+1])<<8 | uint32(m[at+2])<<16 | uint32(m[at+3])<<24
}

// add is an instruction that adds n to x8.
func add(n int32) api.Ins { return api.Ins{Op: api.ADDI, Rd: 8, Rs1: 8, Imm: n} }

// hartAt is a hart that runs at pc, with x5 and x6.
func hartAt(pc, x5, x6 uint32) api.Hart {
	h := api.Hart{PC: pc}
	h.Regs[5], h.Regs[6] = x5, x6
	return h
}

func held(h api.Hart, at uint32) api.Hart {
	h.Held, h.HeldAt = true, at
	return h
}

func trapped(h api.Hart, cause int) api.Hart {
	h.State, h.Cause = api.Trapped, cause
	return h
}

func halted(h api.Hart) api.Hart {
	h.State = api.Halted
	return h
}

// of is a machine.
func of(memory []byte, harts ...api.Hart) api.Machine {
	return api.Machine{Memory: memory, Harts: harts}
}

func sameShown(a, b api.Shown) bool {
	return bytes.Equal(a.Machine.Memory, b.Machine.Memory) && slices.Equal(a.Machine.Harts, b.Machine.Harts) && slices.Equal(a.Out, b.Out) && a.Steps == b.Steps
}

// run is a Run that must be OK, and leave alone what was handed in; what is kept is as J3 says.
func run(t *testing.T, name string, m api.Machine, script []api.Pick, room int) (api.Shown, api.Cache) {
	t.Helper()
	memory, harts, picks := bytes.Clone(m.Memory), slices.Clone(m.Harts), slices.Clone(script)
	s, c, e := engine.Run(m, script, room)
	if e != api.OK {
		t.Fatalf("%s, room %d: error %v", name, room, e)
	}
	if !bytes.Equal(m.Memory, memory) || !slices.Equal(m.Harts, harts) || !slices.Equal(script, picks) {
		t.Errorf("%s, room %d: what was handed in is changed", name, room)
	}
	checkKept(t, name, s.Machine.Memory, c, room)
	if room == api.MaxBlocks && len(c.Blocks) == 0 && c.Pushed == 0 && c.Stale == 0 && didOne(t, m, script) {
		t.Errorf("%s: an instruction was done, but no block was ever kept", name)
	}
	return s, c
}

// checkKept holds a cache against what J3 says of all of them.
func checkKept(t *testing.T, name string, memory []byte, c api.Cache, room int) {
	t.Helper()
	if c.Room != room || len(c.Blocks) > room || c.Pushed < 0 || c.Stale < 0 {
		t.Errorf("%s, room %d: room %d with %d blocks, %d pushed out, %d stale", name, room, c.Room, len(c.Blocks), c.Pushed, c.Stale)
	}
	places := map[uint32]int{}
	for _, b := range c.Blocks {
		places[b.PC]++
		made := block.Make(memory, b.PC)
		if len(b.Ins) == 0 || len(b.Ins) > len(made.Ins) || !slices.Equal(b.Ins, made.Ins[:len(b.Ins)]) {
			t.Errorf("%s, room %d: stale: %v, but there is %v", name, room, b, made)
		}
		if places[b.PC] > 1 {
			t.Errorf("%s, room %d: two blocks at %d", name, room, b.PC)
		}
	}
}

// didOne tells whether a pick had a hart do an instruction: if its first step is none, the hart traps by it.
func didOne(t *testing.T, m api.Machine, script []api.Pick) bool {
	t.Helper()
	for k, p := range script {
		s, e := machine.Run(m, script[:k])
		if e != api.OK {
			t.Fatal(e)
		}
		h := s.Machine.Harts[p.Hart]
		if p.Steps > 0 && h.State == api.Runs && len(block.Make(s.Machine.Memory, h.PC).Ins) > 0 {
			return true
		}
	}
	return false
}

// alike runs a machine with each room, and answers what machine.Run shows of it, which all must show.
func alike(t *testing.T, name string, m api.Machine, script ...api.Pick) api.Shown {
	t.Helper()
	want, e := machine.Run(m, script)
	if e != api.OK {
		t.Fatalf("%s: error %v", name, e)
	}
	for _, room := range rooms {
		if got, _ := run(t, name, m, script, room); !sameShown(got, want) {
			t.Errorf("%s, room %d: shows %v, want %v", name, room, got, want)
		}
	}
	return want
}

// checkWrong is a Run that must tell want and nothing else.
func checkWrong(t *testing.T, name string, m api.Machine, script []api.Pick, room int, want api.Errno) {
	t.Helper()
	s, c, e := engine.Run(m, script, room)
	if e != want {
		t.Errorf("%s, room %d: error %v, want %v", name, room, e, want)
	}
	if len(s.Machine.Memory) != 0 || len(s.Machine.Harts) != 0 || len(s.Out) != 0 || s.Steps != 0 {
		t.Errorf("%s, room %d: shows %v", name, room, s)
	}
	if c.Room != 0 || len(c.Blocks) != 0 || c.Pushed != 0 || c.Stale != 0 {
		t.Errorf("%s, room %d: cache %v", name, room, c)
	}
}

// counting is a machine of so many harts that add 1 to x8 again and again.
func counting(t *testing.T, harts int) api.Machine {
	t.Helper()
	return of(lay(t, make([]byte, 16), 0, add(1), api.Ins{Op: api.JAL, Imm: -4}), make([]api.Hart, harts)...)
}

// wrongRooms are rooms at and beyond both ends.
var wrongRooms = []int{-1, -2, api.MaxBlocks + 1, api.MaxBlocks + 2, -api.MaxBlocks, 1 << 32, 1<<32 + 1, -1 << 32, math.MinInt, math.MaxInt}

// wrongMachines are machines that may not be (E1), one of each kind.
func wrongMachines(t *testing.T) map[string]api.Machine {
	t.Helper()
	all := map[string]api.Machine{
		"nothing":        {},
		"no harts":       {Memory: counting(t, 1).Memory},
		"too many harts": {Harts: make([]api.Hart, api.MaxHarts+1)},
		"too many bytes": of(make([]byte, api.MaxMemory+1), api.Hart{}),
	}
	for name, change := range map[string]func(h *api.Hart){
		"register 0":             func(h *api.Hart) { h.Regs[0] = 1 },
		"HeldAt, but not held":   func(h *api.Hart) { h.HeldAt = 4 },
		"a state below":          func(h *api.Hart) { h.State = api.Runs - 1 },
		"a state above":          func(h *api.Hart) { h.State = api.Trapped + 1 },
		"runs with a cause":      func(h *api.Hart) { h.Cause = api.CauseFetch },
		"halted with a cause":    func(h *api.Hart) { h.State, h.Cause = api.Halted, api.CauseCall },
		"trapped, no cause":      func(h *api.Hart) { h.State = api.Trapped },
		"trapped, a cause below": func(h *api.Hart) { h.State, h.Cause = api.Trapped, -1 },
		"trapped, a cause above": func(h *api.Hart) { h.State, h.Cause = api.Trapped, api.CauseBreak+1 },
	} {
		m := counting(t, api.MaxHarts)
		change(&m.Harts[api.MaxHarts-1])
		all[name] = m
	}
	return all
}

// TestWrong: J1: machine.Run's errors, whatever room is; they come ahead of a room that is wrong.
func TestWrong(t *testing.T) {
	good := []api.Pick{{Hart: 0, Steps: 2}}
	long := slices.Repeat(good, api.MaxScript+1)
	for _, room := range append([]int{0, 1, api.MaxBlocks}, wrongRooms...) {
		for name, m := range wrongMachines(t) {
			for _, script := range [][]api.Pick{nil, good, {{Hart: 9, Steps: 1}}, long} {
				checkWrong(t, name, m, script, room, api.ErrForm)
			}
		}
		checkWrong(t, "too many picks", counting(t, 2), long, room, api.ErrSize)
		checkWrong(t, "too many picks, all wrong", counting(t, 2), slices.Repeat([]api.Pick{{Hart: -1, Steps: -1}}, api.MaxScript+1), room, api.ErrSize)
		for name, p := range map[string]api.Pick{
			"a hart below": {Hart: -1, Steps: 1}, "a hart above": {Hart: 2, Steps: 1}, "a hart far above": {Hart: math.MaxInt, Steps: 1}, "the least hart": {Hart: math.MinInt},
			"steps below": {Hart: 1, Steps: -1}, "steps above": {Hart: 1, Steps: api.MaxSteps + 1}, "steps far above": {Steps: math.MaxInt}, "the least steps": {Steps: math.MinInt},
		} {
			checkWrong(t, name, counting(t, 2), []api.Pick{p}, room, api.ErrRange)
			checkWrong(t, name+", the last one", counting(t, 2), append(slices.Repeat(good, api.MaxScript-1), p), room, api.ErrRange)
		}
	}
}

// TestWrongRooms: J1: ErrRange of rooms beyond both ends, also where nothing is to be done.
func TestWrongRooms(t *testing.T) {
	stopped := of(nil, halted(api.Hart{}))
	for _, room := range wrongRooms {
		for _, script := range [][]api.Pick{nil, {}, {{Hart: 0}}, {{Hart: 0, Steps: 1}}, slices.Repeat([]api.Pick{{Steps: 1}}, api.MaxScript)} {
			checkWrong(t, "counting", counting(t, 1), script, room, api.ErrRange)
			checkWrong(t, "stopped", stopped, script, room, api.ErrRange)
		}
	}
}

// TestRooms: J1, J2, J3: each room from 0 to MaxBlocks is right, is told in the cache, and shows the same.
func TestRooms(t *testing.T) {
	m := of(chain(t, 90), api.Hart{})
	script := []api.Pick{{Steps: 70}, {Steps: 300}}
	want, _ := machine.Run(m, script)
	for room := range api.MaxBlocks + 1 {
		if s, _ := run(t, "a chain", m, script, room); !sameShown(s, want) {
			t.Errorf("room %d: %v", room, s)
		}
		if s, _ := run(t, "no picks", m, nil, room); !sameShown(s, api.Shown{Machine: m}) {
			t.Errorf("room %d, no picks: %v", room, s)
		}
	}
}

// chain is a memory of so many blocks, each of which adds 1 to x8, the last one going back to the first.
func chain(t *testing.T, blocks int) []byte {
	t.Helper()
	m := make([]byte, 8*blocks)
	for k := range blocks {
		m = lay(t, m, 8*k, add(1), api.Ins{Op: api.JAL, Imm: 4})
	}
	return lay(t, m, 8*blocks-4, api.Ins{Op: api.JAL, Imm: int32(4 - 8*blocks)})
}

// TestExample: the chapter's example: a program that writes over its own next word does what the new word says.
func TestExample(t *testing.T) {
	m := lay(t, make([]byte, 12), 0, api.Ins{Op: api.SW, Rs2: 6, Imm: 4}, add(1), api.Ins{Op: api.ECALL})
	s := alike(t, "example", of(m, hartAt(0, 0, encoded(t, add(7)))), api.Pick{Steps: 9})
	want := halted(hartAt(8, 0, encoded(t, add(7))))
	want.Regs[8] = 7
	if s.Steps != 3 || s.Machine.Harts[0] != want || len(s.Out) != 0 || wordAt(s.Machine.Memory, 4) != encoded(t, add(7)) {
		t.Errorf("%v", s)
	}
}
