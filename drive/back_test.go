package drive_test

import (
	"slices"
	"strings"
	"testing"
)

// counted are lines, with their answers, behind which a run of seven steps may be taken back: hart 0 has counted to 4.
func counted(t *testing.T) []string {
	return []string{
		code(t, "addi x1,x1,1", "jal x0,-4") + " => ok 8", "hart 0 => ok 1", "hart 0 => ok 2", "set 0 5 50 => ok",
		"pick 0 7 => ok 1", "run => ran 7", "hart? 0 => " + regs(0, 0, 4, 1, 4, 5, 50),
	}
}

// hartBack is what hart? 0 answers behind counted, so many steps taken back.
func hartBack(steps int) string {
	left := 7 - steps
	return "hart? 0 => " + regs(0, 0, left%2*4, 1, (left+1)/2, 5, 50)
}

// TestBack: N2: with no steps, with some, with all, with more than were done.
func TestBack(t *testing.T) {
	for steps := range 8 {
		checkTalk(t, "back "+number(steps), append(counted(t), "back "+number(steps)+" => ok", hartBack(steps), "hart? 1 => "+regs(0, 0, 0), "words => ok 8")...)
	}
	for _, steps := range []string{"8", "9", "400", "2147483648", "4294967288", "4294967295"} {
		checkTalk(t, "back "+steps, append(counted(t), "back "+steps+" => ?", hartBack(0), "back "+steps+" => ?", "back 7 => ok", hartBack(7))...)
	}
}

// TestBackOfNoSteps: N2: a run without steps may be taken back, too, by 0 steps.
func TestBackOfNoSteps(t *testing.T) {
	checkTalk(t, "no picks", "hart 0 => ok 1", "run => ran 0", "back 1 => ?", "back 0 => ok", "back 0 => ?")
	checkTalk(t, "a pick of none", "hart 0 => ok 1", "pick 0 0 => ok 1", "run => ran 0", "back 0 => ok", "hart? 0 => "+regs(0, 0, 0))
	checkTalk(t, "a hart that runs no more", "hart 0 => ok 1", "pick 0 1 => ok 1", "run => ran 1", "pick 0 5 => ok 1", "run => ran 0", "back 1 => ?", "back 0 => ok", "hart? 0 => "+regs(2, 1, 0))
}

// TestBackWithoutRun: N2: with no run ahead of it, or none but bad ones, or fast alone.
func TestBackWithoutRun(t *testing.T) {
	checkTalk(t, "nothing", "back 0 => ?", "back 1 => ?", "back 4294967295 => ?")
	checkTalk(t, "no run", "words 19 => ok 4", "hart 0 => ok 1", "pick 0 1 => ok 1", "back 0 => ?", "back 1 => ?", "pick 0 1 => ok 2", "hart? 0 => "+regs(0, 0, 0))
	checkTalk(t, "bad ones", "run => bad 2", "back 0 => ?", "hart 0 => ok 1", "pick 1 1 => ok 1", "run => bad 3", "back 0 => ?", "back 1 => ?")
	checkTalk(t, "fast", "words 19 => ok 4", "hart 0 => ok 1", "pick 0 1 => ok 1", "fast 4 => ran 1", "back 0 => ?", "back 1 => ?", "hart? 0 => "+regs(0, 0, 4), "fast 4 => ran 0", "back 0 => ?")
}

// TestBackTwice: N2: what was taken back can't be taken back again, not even by 0 steps, till there is another run.
func TestBackTwice(t *testing.T) {
	for steps := range 8 {
		checkTalk(t, "twice", append(counted(t), "back "+number(steps)+" => ok", "back 0 => ?", "back 1 => ?", "back 7 => ?", hartBack(steps),
			"run => ran 0", "back 1 => ?", "back 0 => ok", "back 0 => ?", hartBack(steps))...)
	}
	checkTalk(t, "again and again", append(counted(t), "back 3 => ok", hartBack(3), "pick 0 3 => ok 1", "run => ran 3", hartBack(0), "back 4 => ?", "back 2 => ok", hartBack(2), "pick 0 1 => ok 1", "run => ran 1", hartBack(1), "back 1 => ok", hartBack(2))...)
}

// TestBackBehindRuns: N2: it is the last run that was not bad whose steps are taken back.
func TestBackBehindRuns(t *testing.T) {
	checkTalk(t, "two runs", append(counted(t), "pick 1 2 => ok 1", "run => ran 2", "back 3 => ?", "back 2 => ok", hartBack(0), "hart? 1 => "+regs(0, 0, 0), "back 7 => ?")...)
	checkTalk(t, "an empty run", append(counted(t), "run => ran 0", "back 7 => ?", "back 1 => ?", "back 0 => ok", hartBack(0))...)
	checkTalk(t, "a bad run", append(counted(t), "pick 2 1 => ok 1", "run => bad 3", "back 8 => ?", "back 7 => ok", hartBack(7), "pick 0 0 => ok 2", "back 0 => ?", "run => bad 3", "back 0 => ?")...)
	checkTalk(t, "two bad runs", append(counted(t), "pick 0 401 => ok 1", "run => bad 3", "run => bad 3", "back 2 => ok", hartBack(2))...)
	checkTalk(t, "a run behind fast", append(counted(t), "pick 0 1 => ok 1", "fast 4 => ran 1", "back 1 => ?", "pick 1 2 => ok 1", "run => ran 2", "back 3 => ?", "back 1 => ok", "hart? 1 => "+regs(0, 0, 4, 1, 1))...)
}

// TestBackEnds: N2: the lines behind which nothing can be taken back, also where they answer ?, or bad.
func TestBackEnds(t *testing.T) {
	for _, between := range [][]string{
		{"words => ok 8"},
		{"words 0 => ok 12"},
		{"words 1 2 3 => ok 20"},
		{"words" + many(" 0", 1022) + " => ok 4096"},
		{"words" + many(" 0", 1023) + " => ?"},
		{"words" + many(" 4294967295", 5000) + " => ?"},
		{"hart 0 => ok 3"},
		{"set 0 1 4 => ok"},
		{"set 0 5 50 => ok"},
		{"set 1 31 0 => ok"},
		{"set 0 0 0 => ?"},
		{"set 0 32 0 => ?"},
		{"set 2 1 0 => ?"},
		{"set 4294967295 4294967295 4294967295 => ?"},
		{"fast 0 => ran 0"},
		{"fast 64 => ran 0"},
		{"fast 65 => bad 3"},
		{"fast 4294967295 => bad 3"},
		{"pick 2 0 => ok 1", "fast 4 => bad 3"},
		{"pick 1 1 => ok 1", "fast 4 => ran 1"},
		{"back 0 => ok"},
		{"hart 0 => ok 3", "hart 0 => ok 4", "hart 0 => ?"},
	} {
		talk := append(counted(t), between...)
		for _, behind := range []string{"back 0 => ?", "back 1 => ?", "back 7 => ?", "back 8 => ?"} {
			checkTalk(t, between[0]+", "+behind, append(slices.Clone(talk), behind, hartBack(0))...)
		}
		checkTalk(t, between[0]+", it stays so", append(slices.Clone(talk), "back 7 => ?", "hart? 1 => "+hartOne(between), "what 0 => no", "back 1 => ?", "back 0 => ?")...)
	}
}

// hartOne is what hart? 1 answers behind the lines of TestBackEnds.
func hartOne(between []string) string {
	if between[0] == "pick 1 1 => ok 1" {
		return regs(0, 0, 4, 1, 1)
	}
	return regs(0, 0, 0)
}

// TestBackGoesOn: N2: the lines behind which the run can be taken back as if they had not been there.
func TestBackGoesOn(t *testing.T) {
	for _, line := range []string{
		"pick 0 1 => ok 1", "pick 0 0 => ok 1", "pick 9 999 => ok 1", "pick 4294967295 4294967295 => ok 1",
		"hart? 0 => " + regs(0, 0, 4, 1, 4, 5, 50), "hart? 1 => " + regs(0, 0, 0), "hart? 2 => ?", "hart? 4294967295 => ?",
		"what 0 => no", "what 115 => is 58 0 0 0 0", "what 4294967295 => no",
		"block 0 => 2", "block 4 => 1", "block 8 => 0", "block 4294967295 => 0",
		"show 0 => addi x1,x1,1", "show 8 => no", "show 4294967295 => no",
		"back 8 => ?", "back 4294967295 => ?",
		" => ?", "? => ?", "nothing => ?", "words  => ?", "words x => ?", "words 1 x => ?", "words 01 => ?", "words 4294967296 => ?", "words -1 => ?", "words 1  2 => ?", "words 1  => ?", "words\t1 => ?", "Words => ?", "words1 => ?", "words, => ?",
		"words" + many(" 1", 2000) + " 01 => ?", "words" + many(" 1", 2000) + "  => ?",
		"hart => ?", "hart  => ?", "hart 0 0 => ?", "hart 01 => ?", "hart x => ?", "hart 4294967296 => ?", "HART 0 => ?", "hart0 => ?",
		"set => ?", "set 0 => ?", "set 0 1 => ?", "set 0 1 4 4 => ?", "set 0 1 04 => ?", "set 0 1 4294967296 => ?", "set 0 1 4  => ?", "set 0 1 -1 => ?", "set  0 1 4 => ?", "set 0 01 4 => ?", "set x 1 4 => ?", "sets 0 1 4 => ?",
		"fast => ?", "fast  => ?", "fast 4 4 => ?", "fast 04 => ?", "fast 4294967296 => ?", "fast x => ?", "fast4 => ?", "fast -1 => ?",
		"run 0 => ?", "run  => ?", " run => ?", "run 1 2 => ?", "RUN => ?", "runs => ?",
		"back => ?", "back  => ?", "back 0 0 => ?", "back 00 => ?", "back 07 => ?", "back x => ?", "back -1 => ?", "back 4294967296 => ?", " back 0 => ?",
	} {
		for steps := range 8 {
			checkTalk(t, line, append(counted(t), line, "back "+number(steps)+" => ok", hartBack(steps), "back 0 => ?")...)
		}
		checkTalk(t, line+", twice", append(counted(t), line, "back 8 => ?", "hart? 1 => "+regs(0, 0, 0), "back 5 => ok", hartBack(5))...)
	}
}

// TestBackBehindNoHart: N2: a hart that is not made, since there are MaxHarts, does not end it.
func TestBackBehindNoHart(t *testing.T) {
	checkTalk(t, "four harts", code(t, "addi x1,x1,1")+" => ok 4", "hart 0 => ok 1", "hart 0 => ok 2", "hart 0 => ok 3", "hart 0 => ok 4", "pick 3 1 => ok 1", "run => ran 1",
		"hart 0 => ?", "hart 4294967295 => ?", "hart? 3 => "+regs(0, 0, 4, 1, 1), "back 1 => ok", "hart? 3 => "+regs(0, 0, 0))
}

// TestBackKeepsPicks: N2: picks that were made behind the run stay, and those of the run do not come again.
func TestBackKeepsPicks(t *testing.T) {
	checkTalk(t, "picks", append(counted(t), "pick 1 2 => ok 1", "pick 0 1 => ok 2", "back 7 => ok", hartBack(7), "pick 1 1 => ok 3", "run => ran 4", "hart? 1 => "+regs(0, 0, 4, 1, 2), hartBack(6), "back 3 => ok", "hart? 1 => "+regs(0, 0, 4, 1, 1), hartBack(7))...)
	checkTalk(t, "no picks", append(counted(t), "back 7 => ok", "pick 0 1 => ok 1", "run => ran 1", hartBack(6))...)
}

// TestBackOfAll: N2: bytes, what was reserved, and harts that run no more are as they were; what is done again comes out again.
func TestBackOfAll(t *testing.T) {
	lines := []string{
		code(t, "lr.w x1,(x2)", "sc.w x10,x3,(x2)", "ecall", "sb x3,41(x0)", "ebreak") + " => ok 20", "words" + many(" 0", 5) + " 287454020 => ok 44", "words 0 => ok 48",
		"hart 0 => ok 1", "hart 12 => ok 2", "set 0 2 40 => ok", "set 0 3 255 => ok", "set 0 17 1 => ok", "set 1 3 119 => ok",
		"pick 0 1 => ok 1", "run => ran 1", "pick 1 1 => ok 1", "pick 0 2 => ok 2", "pick 1 1 => ok 3", "run => ran 4 1",
		"hart? 1 => " + regs(2, 6, 16, 3, 119),
	}
	checkTalk(t, "the store, too", append(lines, "back 4 => ok", "hart? 1 => "+regs(0, 0, 12, 3, 119), "hart? 0 => "+regs(0, 0, 4, 1, 287454020, 2, 40, 3, 255, 17, 1), "pick 0 2 => ok 1", "run => ran 2 0")...)
	checkTalk(t, "but not the store", append(lines, "back 3 => ok", "hart? 1 => "+regs(0, 0, 16, 3, 119), "pick 0 2 => ok 1", "run => ran 2 1")...)
	checkTalk(t, "but the trap", append(lines, "back 1 => ok", "hart? 1 => "+regs(0, 0, 16, 3, 119), "pick 1 5 => ok 1", "run => ran 1", "hart? 1 => "+regs(2, 6, 16, 3, 119), "back 1 => ok", "hart? 1 => "+regs(0, 0, 16, 3, 119))...)
}

// TestBackOfManySteps: N2: so many steps as may be done in a script of 40 lines.
func TestBackOfManySteps(t *testing.T) {
	lines := []string{code(t, "sw x1,64(x0)", "addi x1,x1,1", "jal x0,-8"), "words" + many(" 7", 1021), "hart 0"}
	for range 33 {
		lines = append(lines, "pick 0 400")
	}
	for _, steps := range []int{0, 1, 400, 12000, 13199, 13200} {
		left := 13200 - steps
		answers := play(t, "many", append(lines, "run", "back 13201", "back "+number(steps), "hart? 0")...)
		want := []string{"ran 13200", "?", "ok", regs(0, 0, left%3*4, 1, (left+1)/3)}
		if got := answers[len(lines):]; !slices.Equal(got, want) {
			t.Errorf("%d steps back: %q, want %q", steps, got, want)
		}
	}
}

// TestLinesBetween: N2: what ends back, and what does not, in each order of two.
func TestLinesBetween(t *testing.T) {
	goesOn := []string{"pick 0 1", "hart? 0", "what 7", "block 0", "show 0", "back 8", "run 1", "set 0", "", "words x"}
	ends := []string{"words", "hart 0", "set 9 9 9", "fast 65", "fast 0", "back 2"}
	ahead := play(t, "ahead", linesOf(counted(t))...)
	last := func(lines ...string) string {
		answers := play(t, "between", append(linesOf(counted(t)), lines...)...)
		if !slices.Equal(answers[:len(ahead)], ahead) {
			t.Fatalf("%q answer otherwise ahead", lines)
		}
		return answers[len(answers)-1]
	}
	for _, a := range slices.Concat(goesOn, ends) {
		for _, b := range slices.Concat(goesOn, ends) {
			want := "?"
			if slices.Contains(goesOn, a) && slices.Contains(goesOn, b) {
				want = "ok"
			}
			if got := last(a, b, "back 1"); got != want {
				t.Errorf("behind %q, %q: %q, want %q", a, b, got, want)
			}
		}
	}
}

// linesOf are the lines of a talk, without their answers.
func linesOf(talk []string) []string {
	var lines []string
	for _, both := range talk {
		line, _, _ := strings.Cut(both, " => ")
		lines = append(lines, line)
	}
	return lines
}
