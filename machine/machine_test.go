package machine_test

import (
	"bytes"
	"math"
	"slices"
	"strconv"
	"testing"

	"ferrybridge/api"
	"ferrybridge/decode"
	"ferrybridge/machine"
)

const ones = uint32(1<<32 - 1)

// lay answers a copy of a memory in which the words of instructions stand from at on.
func lay(t *testing.T, m []byte, at int, program ...api.Ins) []byte {
	t.Helper()
	out := bytes.Clone(m)
	for _, i := range program {
		w, e := decode.Encode(i)
		if e != api.OK {
			t.Fatalf("Encode(%v): %v", i, e)
		}
		put(out, at, w)
		at += 4
	}
	return out
}

func put(m []byte, at int, w uint32) {
	for k := range 4 {
		m[at+k] = byte(w >> (8 * k))
	}
}

func wordAt(m []byte, at int) uint32 {
	return uint32(m[at]) | uint32(m[at+1])<<8 | uint32(m[at+2])<<16 | uint32(m[at+3])<<24
}

func held(h api.Hart, at uint32) api.Hart {
	h.Held, h.HeldAt = true, at
	return h
}

func trapped(h api.Hart, cause int) api.Hart {
	h.State, h.Cause = api.Trapped, cause
	return h
}

func halted(h api.Hart) api.Hart {
	h.State = api.Halted
	return h
}

// full is a hart that runs, with all registers told apart by mark.
func full(mark uint32) api.Hart {
	h := api.Hart{PC: ones - 3}
	for k := 1; k < 32; k++ {
		h.Regs[k] = mark<<16 + uint32(k)
	}
	return h
}

// run is a Run that must be OK, and leave alone what was handed in.
func run(t *testing.T, name string, m api.Machine, script ...api.Pick) api.Shown {
	t.Helper()
	memory, harts, picks := bytes.Clone(m.Memory), slices.Clone(m.Harts), slices.Clone(script)
	s, e := machine.Run(m, script)
	if e != api.OK {
		t.Fatalf("%s: error %v", name, e)
	}
	if !bytes.Equal(m.Memory, memory) || !slices.Equal(m.Harts, harts) || !slices.Equal(script, picks) {
		t.Errorf("%s: what was handed in is changed", name)
	}
	if !machine.May(s.Machine) {
		t.Errorf("%s: the machine that is shown may not be: %v", name, s.Machine)
	}
	return s
}

// checkWrong is a Run that must tell want and nothing else.
func checkWrong(t *testing.T, name string, m api.Machine, script []api.Pick, want api.Errno) {
	t.Helper()
	s, e := machine.Run(m, script)
	if e != want {
		t.Errorf("%s: error %v, want %v", name, e, want)
	}
	if len(s.Machine.Memory) != 0 || len(s.Machine.Harts) != 0 || len(s.Out) != 0 || s.Steps != 0 {
		t.Errorf("%s: shows %v", name, s)
	}
	if b, e := machine.NewBoard(m, script); e != want || len(b.Machine.Harts) != 0 {
		t.Errorf("%s: board %v, %v", name, b, e)
	}
}

// TestMay: E1: machines that may be; with no picks they are shown as they are.
func TestMay(t *testing.T) {
	for name, m := range map[string]api.Machine{
		"no memory, one hart":      {Harts: []api.Hart{{}}},
		"an empty memory":          {Memory: []byte{}, Harts: []api.Hart{full(1)}},
		"a memory of three bytes":  {Memory: []byte{1, 2, 3}, Harts: []api.Hart{full(1)}},
		"a memory of MaxMemory":    {Memory: bytes.Repeat([]byte{7}, api.MaxMemory), Harts: []api.Hart{full(1)}},
		"a memory of one less":     {Memory: bytes.Repeat([]byte{8}, api.MaxMemory-1), Harts: []api.Hart{full(1)}},
		"two harts":                {Memory: []byte{1, 2, 3, 4}, Harts: []api.Hart{full(1), full(2)}},
		"MaxHarts harts":           {Memory: []byte{9}, Harts: []api.Hart{full(1), {}, full(3), full(4)}},
		"harts that do not run":    {Memory: []byte{9}, Harts: []api.Hart{halted(full(1)), trapped(full(2), api.CauseFetch), trapped(full(3), api.CauseBreak)}},
		"held at one place":        {Memory: []byte{9}, Harts: []api.Hart{held(full(1), 0), held(full(2), 0)}},
		"held, and they don't run": {Memory: []byte{9}, Harts: []api.Hart{held(halted(full(1)), 4), held(trapped(full(2), api.CauseCall), ones)}},
	} {
		if !machine.May(m) {
			t.Errorf("%s: it may not be", name)
		}
		for _, script := range [][]api.Pick{nil, {}, {{Hart: 0, Steps: 0}}} {
			s := run(t, name, m, script...)
			if !bytes.Equal(s.Machine.Memory, m.Memory) || !slices.Equal(s.Machine.Harts, m.Harts) || len(s.Out) != 0 || s.Steps != 0 {
				t.Errorf("%s: shows %v", name, s)
			}
		}
	}
}

// wrongHarts are harts that may not be (D1), one of each kind.
func wrongHarts() map[string]api.Hart {
	all := map[string]api.Hart{}
	for name, change := range map[string]func(h *api.Hart){
		"register 0":             func(h *api.Hart) { h.Regs[0] = 1 },
		"HeldAt, but not held":   func(h *api.Hart) { h.HeldAt = 4 },
		"a state below":          func(h *api.Hart) { h.State = api.Runs - 1 },
		"a state above":          func(h *api.Hart) { h.State = api.Trapped + 1 },
		"runs with a cause":      func(h *api.Hart) { h.Cause = api.CauseFetch },
		"halted with a cause":    func(h *api.Hart) { h.State, h.Cause = api.Halted, api.CauseCall },
		"trapped, no cause":      func(h *api.Hart) { h.State = api.Trapped },
		"trapped, a cause below": func(h *api.Hart) { h.State, h.Cause = api.Trapped, -1 },
		"trapped, a cause above": func(h *api.Hart) { h.State, h.Cause = api.Trapped, api.CauseBreak+1 },
	} {
		h := full(5)
		change(&h)
		all[name] = h
	}
	return all
}

// TestMayNot: E1: machines that may not be, one for each condition; each hart of one counts, also one that is not picked.
func TestMayNot(t *testing.T) {
	one := []api.Hart{full(1)}
	for name, m := range map[string]api.Machine{
		"empty":                    {},
		"no harts":                 {Memory: []byte{19, 0, 0, 0}},
		"an empty list of harts":   {Memory: []byte{19, 0, 0, 0}, Harts: []api.Hart{}},
		"harts behind the length":  {Memory: []byte{19, 0, 0, 0}, Harts: one[:0]},
		"MaxHarts and one":         {Harts: make([]api.Hart, api.MaxHarts+1)},
		"very many harts":          {Harts: make([]api.Hart, 1<<8+1)},
		"MaxMemory and one":        {Memory: make([]byte, api.MaxMemory+1), Harts: one},
		"a very long memory":       {Memory: make([]byte, 1<<16+4), Harts: one},
		"long, and no harts":       {Memory: make([]byte, api.MaxMemory+1)},
		"long, and too many harts": {Memory: make([]byte, api.MaxMemory+1), Harts: make([]api.Hart, api.MaxHarts+1)},
	} {
		if machine.May(m) {
			t.Errorf("%s: it may be", name)
		}
		checkWrong(t, name, m, nil, api.ErrForm)
		checkWrong(t, name, m, []api.Pick{{Hart: 0, Steps: 1}}, api.ErrForm)
	}
	for name, wrong := range wrongHarts() {
		for count := 1; count <= api.MaxHarts; count++ {
			for k := range count {
				m := api.Machine{Memory: []byte{19, 0, 0, 0}, Harts: make([]api.Hart, count)}
				m.Harts[k] = wrong
				name := name + ", hart " + strconv.Itoa(k) + " of " + strconv.Itoa(count)
				if machine.May(m) {
					t.Errorf("%s: it may be", name)
				}
				checkWrong(t, name, m, nil, api.ErrForm)
				checkWrong(t, name, m, []api.Pick{{Hart: (k + 1) % count, Steps: 1}}, api.ErrForm)
			}
		}
	}
}

// nops is a machine of count harts at 0, with ADDIs of register 0 in all of its memory.
func nops(t *testing.T, count int) api.Machine {
	t.Helper()
	m := make([]byte, api.MaxMemory)
	for at := 0; at < len(m); at += 4 {
		put(m, at, 19)
	}
	return api.Machine{Memory: m, Harts: make([]api.Hart, count)}
}

// TestScripts: E1: scripts at each limit, and just beyond it.
func TestScripts(t *testing.T) {
	m := nops(t, 3)
	s := run(t, "MaxScript picks", m, slices.Repeat([]api.Pick{{Hart: 1, Steps: 1}}, api.MaxScript)...)
	if s.Steps != api.MaxScript || s.Machine.Harts[1].PC != 4*api.MaxScript {
		t.Errorf("MaxScript picks: %d steps", s.Steps)
	}
	s = run(t, "MaxSteps", m, api.Pick{Hart: 2, Steps: api.MaxSteps})
	if s.Steps != api.MaxSteps || s.Machine.Harts[2].PC != 4*api.MaxSteps {
		t.Errorf("MaxSteps: %d steps", s.Steps)
	}
	for _, steps := range []int{0, 1} {
		checkWrong(t, "a pick too many", m, slices.Repeat([]api.Pick{{Hart: 1, Steps: steps}}, api.MaxScript+1), api.ErrSize)
	}
	checkWrong(t, "very many picks", m, make([]api.Pick, 1<<16), api.ErrSize)
	for name, wrong := range map[string]api.Pick{
		"a hart below":                {Hart: -1, Steps: 1},
		"a hart below, no steps":      {Hart: -1},
		"a hart above":                {Hart: 3, Steps: 1},
		"a hart above, no steps":      {Hart: 3},
		"a hart at MaxHarts":          {Hart: api.MaxHarts, Steps: 1},
		"a hart of 2^32":              {Hart: 1 << 32, Steps: 1},
		"the least hart":              {Hart: math.MinInt, Steps: 1},
		"the greatest hart":           {Hart: math.MaxInt, Steps: 1},
		"steps below":                 {Hart: 0, Steps: -1},
		"steps above":                 {Hart: 0, Steps: api.MaxSteps + 1},
		"steps above, the last hart":  {Hart: 2, Steps: api.MaxSteps + 1},
		"steps of 2^32":               {Hart: 0, Steps: 1 << 32},
		"the least steps":             {Hart: 0, Steps: math.MinInt},
		"the greatest steps":          {Hart: 0, Steps: math.MaxInt},
		"a hart and steps, both high": {Hart: 3, Steps: api.MaxSteps + 1},
	} {
		for _, length := range []int{1, 2, 7, api.MaxScript} {
			for _, at := range []int{0, length / 2, length - 1} {
				script := slices.Repeat([]api.Pick{{Hart: 0, Steps: 1}}, length)
				script[at] = wrong
				checkWrong(t, name, m, script, api.ErrRange)
			}
		}
	}
}

// TestHartsThatAre: E1: which harts a pick may have hangs on how many the machine has, not on how many there may be, or whether they run.
func TestHartsThatAre(t *testing.T) {
	for count := 1; count <= api.MaxHarts; count++ {
		m := nops(t, count)
		for k := range count {
			if s := run(t, "a hart that is", m, api.Pick{Hart: k, Steps: 2}); s.Steps != 2 || s.Machine.Harts[k].PC != 8 {
				t.Errorf("hart %d of %d: %d steps", k, count, s.Steps)
			}
		}
		for k := count; k <= api.MaxHarts+1; k++ {
			checkWrong(t, "a hart that is none", m, []api.Pick{{Hart: k, Steps: 2}}, api.ErrRange)
			behind := api.Machine{Memory: m.Memory, Harts: make([]api.Hart, api.MaxHarts+2)[:count]}
			checkWrong(t, "a hart behind the length", behind, []api.Pick{{Hart: k, Steps: 2}}, api.ErrRange)
		}
		m.Harts[0] = halted(m.Harts[0])
		checkWrong(t, "of a hart that is halted", m, []api.Pick{{Hart: 0, Steps: api.MaxSteps + 1}}, api.ErrRange)
	}
}

// TestWhichWrong: E1: of several wrongs the first one is told.
func TestWhichWrong(t *testing.T) {
	good := nops(t, 1)
	range1 := []api.Pick{{Hart: 1, Steps: 1}}
	size := slices.Repeat([]api.Pick{{Hart: 0, Steps: 1}}, api.MaxScript+1)
	both := slices.Repeat([]api.Pick{{Hart: -1, Steps: -1}}, api.MaxScript+1)
	firstWrong, lastWrong := slices.Clone(size), slices.Clone(size)
	firstWrong[0].Hart, lastWrong[api.MaxScript].Steps = 7, -1
	forms := []api.Machine{
		{}, {Memory: good.Memory}, {Memory: make([]byte, api.MaxMemory+1), Harts: good.Harts}, {Harts: make([]api.Hart, api.MaxHarts+1)},
	}
	for _, wrong := range wrongHarts() {
		forms = append(forms, api.Machine{Memory: good.Memory, Harts: []api.Hart{{}, wrong}})
	}
	for _, m := range forms {
		for _, script := range [][]api.Pick{nil, {{Hart: 0, Steps: 1}}, range1, size, both, firstWrong, lastWrong} {
			checkWrong(t, "form", m, script, api.ErrForm)
		}
	}
	for _, script := range [][]api.Pick{size, both, firstWrong, lastWrong} {
		checkWrong(t, "size", good, script, api.ErrSize)
	}
	checkWrong(t, "range", good, range1, api.ErrRange)
	checkWrong(t, "range at MaxScript", good, firstWrong[:api.MaxScript], api.ErrRange)
	run(t, "a wrong pick behind the length", good, lastWrong[:api.MaxScript]...)
}
