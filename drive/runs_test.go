package drive_test

import (
	"testing"

	"ferrybridge/api"
)

// both are the lines run, and fast with rooms that may be.
var both = []string{"run", "fast 0", "fast 1", "fast 2", "fast 63", "fast 64"}

// TestRun: N2: how many steps, and what came out; the machine goes on from where it was, and the picks are gone.
func TestRun(t *testing.T) {
	count := code(t, "addi x10,x10,1", "ecall", "jal x0,-8") + " => ok 12"
	for _, one := range both {
		for _, other := range both {
			checkTalk(t, one+", "+other, count, "hart 0 => ok 1", "hart 0 => ok 2", "set 0 17 1 => ok", "set 1 17 1 => ok", "set 1 10 4294967294 => ok",
				"pick 0 5 => ok 1", "pick 1 6 => ok 2", "pick 0 1 => ok 3", one+" => ran 12 1 2 4294967295 0",
				"hart? 0 => "+regs(0, 0, 0, 10, 2, 17, 1), "hart? 1 => "+regs(0, 0, 0, 10, 0, 17, 1),
				other+" => ran 0", "pick 1 4 => ok 1", other+" => ran 4 1", "hart? 1 => "+regs(0, 0, 4, 10, 2, 17, 1), one+" => ran 0", "pick 0 400 => ok 1")
		}
	}
}

// TestRunWithoutPicks: N2: without picks no step is done, and nothing comes out.
func TestRunWithoutPicks(t *testing.T) {
	for _, line := range both {
		checkTalk(t, line, "words 19 => ok 4", "hart 0 => ok 1", line+" => ran 0", line+" => ran 0", "hart? 0 => "+regs(0, 0, 0), "words => ok 4")
		checkTalk(t, line, "hart 0 => ok 1", "pick 0 0 => ok 1", "pick 0 0 => ok 2", line+" => ran 0", "hart? 0 => "+regs(0, 0, 0), "pick 0 0 => ok 1")
	}
}

// TestRunNoMore: N2: a hart that runs no more does no step; the step that halts or traps is one.
func TestRunNoMore(t *testing.T) {
	for _, line := range both {
		checkTalk(t, line, code(t, "ecall", "ebreak")+" => ok 8", "hart 0 => ok 1", "hart 4 => ok 2", "pick 0 400 => ok 1", "pick 1 400 => ok 2", "pick 0 400 => ok 3", line+" => ran 2",
			"hart? 0 => "+regs(1, 0, 0), "hart? 1 => "+regs(2, 6, 4), "pick 1 9 => ok 1", line+" => ran 0", "hart? 1 => "+regs(2, 6, 4))
	}
}

// TestRunManyOut: N2: very many words come out in one line.
func TestRunManyOut(t *testing.T) {
	for _, line := range both {
		lines := []string{code(t, "ecall", "jal x0,-4"), "hart 0", "set 0 17 1", "set 0 10 4294967295"}
		for range 35 {
			lines = append(lines, "pick 0 400")
		}
		answers := play(t, line, append(lines, line)...)
		if got := answers[len(answers)-1]; got != "ran 14000"+many(" 4294967295", 7000) {
			t.Errorf("%s: %d bytes, from %.60q on", line, len(got), got)
		}
	}
}

// TestBad: N2: the error, and the machine and the picks stay; the first error that applies.
func TestBad(t *testing.T) {
	for _, line := range append([]string{"fast 65", "fast 4294967295"}, both...) {
		checkTalk(t, line+", no hart", line+" => bad 2", "words 19 => ok 4", line+" => bad 2", "pick 0 1 => ok 1", line+" => bad 2", "pick 9 999 => ok 2", line+" => bad 2", "words => ok 4", "pick 0 0 => ok 3")
		checkTalk(t, line+", a pick", "words 19 => ok 4", "hart 0 => ok 1", "pick 0 1 => ok 1", "pick 1 1 => ok 2", line+" => bad 3", "hart? 0 => "+regs(0, 0, 0), "words => ok 4", "pick 0 0 => ok 3")
	}
	for _, line := range both {
		checkTalk(t, line+", the hart comes later", "words 19 19 => ok 8", "hart 0 => ok 1", "pick 0 1 => ok 1", "pick 1 2 => ok 2", line+" => bad 3", "hart 0 => ok 2", line+" => ran 3", "hart? 0 => "+regs(0, 0, 4), "hart? 1 => "+regs(0, 0, 8))
	}
}

// TestBadRoom: N2: a room that is none: bad, and the machine and the picks stay.
func TestBadRoom(t *testing.T) {
	for _, room := range []string{"65", "66", "128", "256", "320", "2147483648", "4294967295"} {
		checkTalk(t, "room "+room, "words 19 19 => ok 8", "hart 0 => ok 1", "fast "+room+" => bad 3", "pick 0 1 => ok 1", "fast "+room+" => bad 3", "hart? 0 => "+regs(0, 0, 0), "pick 0 1 => ok 2", "fast 64 => ran 2", "hart? 0 => "+regs(0, 0, 8), "fast "+room+" => bad 3", "hart? 0 => "+regs(0, 0, 8))
	}
}

// TestFastSeesNoChange: N2: a program that writes over its own next word, by each.
func TestFastSeesNoChange(t *testing.T) {
	for _, line := range both {
		checkTalk(t, line, code(t, "lw x5,16(x0)", "sw x5,8(x0)", "addi x10,x0,1", "ecall", "addi x10,x0,2")+" => ok 20", "hart 0 => ok 1", "set 0 17 1 => ok",
			"show 8 => addi x10,x0,1", "pick 0 4 => ok 1", line+" => ran 4 2", "show 8 => addi x10,x0,2")
	}
}

// TestHeldStays: N2: what a hart has reserved stays from one run to the next, and goes where another one stores.
func TestHeldStays(t *testing.T) {
	for _, line := range both {
		checkTalk(t, line, code(t, "lr.w x1,(x2)", "sc.w x10,x3,(x2)", "ecall", "sw x0,40(x0)", "sw x0,44(x0)")+" => ok 20", "words"+many(" 7", 8)+" => ok 52",
			"hart 0 => ok 1", "hart 0 => ok 2", "hart 12 => ok 3", "set 0 2 40 => ok", "set 0 17 1 => ok", "set 1 2 44 => ok", "set 1 17 1 => ok",
			"pick 0 1 => ok 1", "pick 1 1 => ok 2", line+" => ran 2", "pick 2 1 => ok 1", line+" => ran 1", "pick 0 2 => ok 1", "pick 1 2 => ok 2", line+" => ran 4 1 0")
	}
}

// TestHartAsked: N2: State, Cause, PC and all registers of harts that run, have halted, have trapped by each cause.
func TestHartAsked(t *testing.T) {
	for _, c := range []struct {
		text         string
		call         int
		state, cause int
	}{
		{"addi x0,x0,0", 0, api.Runs, 0},
		{"ecall", 0, api.Halted, 0},
		{"ecall", 2, api.Trapped, api.CauseCall},
		{"ecall", 4294967295, api.Trapped, api.CauseCall},
		{"ebreak", 0, api.Trapped, api.CauseBreak},
		{"lw x1,1(x0)", 0, api.Trapped, api.CauseLoad},
		{"lr.w x1,(x31)", 0, api.Trapped, api.CauseLoad},
		{"sw x1,64(x0)", 0, api.Trapped, api.CauseStore},
	} {
		pc := 4
		if c.state == api.Runs {
			pc = 8
		}
		name := c.text + " " + number(c.call)
		checkTalk(t, name, "words 0 => ok 4", code(t, c.text)+" => ok 8", "hart 4 => ok 1", "set 0 17 "+number(c.call)+" => ok", "set 0 31 4294967295 => ok", "set 0 1 9 => ok",
			"pick 0 1 => ok 1", "run => ran 1", "hart? 0 => "+regs(c.state, c.cause, pc, 1, 9, 17, c.call, 31, 4294967295))
	}
	checkTalk(t, "no word", "words 0 => ok 4", "hart 4 => ok 1", "hart 2 => ok 2", "hart 0 => ok 3", "pick 0 1 => ok 1", "pick 1 1 => ok 2", "pick 2 1 => ok 3", "run => ran 3",
		"hart? 0 => "+regs(2, 1, 4), "hart? 1 => "+regs(2, 1, 2), "hart? 2 => "+regs(2, 2, 0), "hart? 3 => ?", "hart? 4 => ?", "hart? 256 => ?", "hart? 2147483648 => ?", "hart? 4294967292 => ?", "hart? 4294967295 => ?")
	for r := 1; r < 32; r++ {
		checkTalk(t, "register", "hart 5 => ok 1", "set 0 "+number(r)+" "+number(1000+r)+" => ok", "hart? 0 => "+regs(0, 0, 5, r, 1000+r))
	}
	checkTalk(t, "none", "hart? 0 => ?", "hart? 1 => ?", "hart? 4294967295 => ?")
}
