package drive_test

import (
	"testing"

	"ferrybridge/api"
)

// tells are harts' code, and a hart, that tell what the memory's words at some places are.
func tells(t *testing.T, places ...int) []string {
	t.Helper()
	var texts []string
	for _, at := range places {
		texts = append(texts, "lw x10,"+number(at)+"(x0)", "ecall")
	}
	return []string{code(t, texts...), "hart 0", "set 0 17 1", "pick 0 " + number(2*len(places))}
}

// TestWords: N2: each NUMBER is four bytes more, the lowest first.
func TestWords(t *testing.T) {
	checkTalk(t, "how many", "words => ok 0", "words 1 => ok 4", "words => ok 4", "words 1 2 3 => ok 16", "words 0 => ok 20", "words 4294967295 0 => ok 28", "words => ok 28")
	lines := append(tells(t, 32, 36, 40, 44), "words 4294967295 0", "words", "words 1 67305985", "run")
	answers := play(t, "content", lines...)
	if got := answers[len(answers)-1]; got != "ran 8 4294967295 0 1 67305985" {
		t.Errorf("the words are told as %q", got)
	}
	checkTalk(t, "single bytes",
		code(t, "lbu x10,32(x0)", "ecall", "lbu x10,33(x0)", "ecall", "lbu x10,34(x0)", "ecall", "lbu x10,35(x0)", "ecall")+" => ok 32",
		"words 67305985 => ok 36", "hart 0 => ok 1", "set 0 17 1 => ok", "pick 0 8 => ok 1", "run => ran 8 1 2 3 4",
	)
}

// TestWordsUpToMost: N2: up to MaxMemory bytes, in one line or in several; beyond it the memory stays as it was.
func TestWordsUpToMost(t *testing.T) {
	const most = api.MaxMemory / 4
	checkTalk(t, "at once", "words"+many(" 1", most)+" => ok 4096", "words => ok 4096", "words 1 => ?", "words => ok 4096", "words 1 2 => ?", "words"+many(" 1", most)+" => ?", "words => ok 4096")
	checkTalk(t, "one too many", "words"+many(" 1", most+1)+" => ?", "words => ok 0", "words"+many(" 1", most)+" => ok 4096")
	checkTalk(t, "far too many", "words 7 => ok 4", "words"+many(" 1", 20*most)+" => ?", "words => ok 4", "words"+many(" 1", most)+" => ?", "words => ok 4", "words"+many(" 1", most-1)+" => ok 4096")
	checkTalk(t, "in two", "words"+many(" 1", most-2)+" => ok 4088", "words 1 2 3 => ?", "words => ok 4088", "words 1 => ok 4092", "words 1 2 => ?", "words 5 => ok 4096", "words 5 => ?")
	for count := range 30 {
		checkTalk(t, "near the end", "words"+many(" 1", most-15)+" => ok 4036", "words"+many(" 2", count)+" => "+answerOfWords(4036+4*count))
	}
}

func answerOfWords(size int) string {
	if size > api.MaxMemory {
		return "?"
	}
	return "ok " + number(size)
}

// TestWordsStay: N2: words that were too many are not there, nor any of them: the memory ends where it did, and has what it had.
func TestWordsStay(t *testing.T) {
	checkTalk(t, "stay", code(t, "lw x10,-8(x1)", "ecall", "lw x10,-4(x1)", "ecall")+" => ok 16", "hart 0 => ok 1", "set 0 17 1 => ok", "set 0 1 4096 => ok",
		"words"+many(" 3", 1019)+" => ok 4092", "words 5 6 => ?", "words 8 => ok 4096", "words 9 => ?", "pick 0 4 => ok 1", "run => ran 4 3 8")
}

// TestHart: N2: harts that run, at a PC, all else 0, up to MaxHarts.
func TestHart(t *testing.T) {
	checkTalk(t, "up to the most",
		"hart 0 => ok 1", "hart 3 => ok 2", "hart 4294967295 => ok 3", "hart 8 => ok 4", "hart 12 => ?", "hart 8 => ?",
		"hart? 0 => "+regs(0, 0, 0), "hart? 1 => "+regs(0, 0, 3), "hart? 2 => "+regs(0, 0, 4294967295), "hart? 3 => "+regs(0, 0, 8), "hart? 4 => ?",
	)
	checkTalk(t, "no more behind a run", "hart 0 => ok 1", "hart 0 => ok 2", "hart 0 => ok 3", "hart 0 => ok 4", "pick 3 1 => ok 1", "run => ran 1", "hart 0 => ?", "fast 0 => ran 0", "hart 0 => ?")
	checkTalk(t, "more behind a run", "hart 0 => ok 1", "set 0 5 6 => ok", "pick 0 1 => ok 1", "run => ran 1", "hart 9 => ok 2", "hart? 0 => "+regs(2, 1, 0, 5, 6), "hart? 1 => "+regs(0, 0, 9))
}

// TestHartHoldsNothing: N2: all else of a new hart is 0: it is not Held: an SCW of it fails.
func TestHartHoldsNothing(t *testing.T) {
	checkTalk(t, "sc.w", code(t, "sc.w x10,x0,(x0)", "ecall")+" => ok 8", "hart 0 => ok 1", "set 0 17 1 => ok", "pick 0 2 => ok 1", "run => ran 2 1")
}

// TestSet: N2: registers 1 to 31 of harts that there are, words up to the greatest.
func TestSet(t *testing.T) {
	for r := 1; r < 32; r++ {
		n := number(r)
		checkTalk(t, "register "+n, "hart 8 => ok 1", "hart 9 => ok 2", "set 1 "+n+" 4294967295 => ok", "hart? 1 => "+regs(0, 0, 9, r, 4294967295), "set 0 "+n+" 77 => ok",
			"hart? 0 => "+regs(0, 0, 8, r, 77), "set 1 "+n+" 0 => ok", "hart? 1 => "+regs(0, 0, 9), "hart? 0 => "+regs(0, 0, 8, r, 77))
	}
	for _, r := range []string{"0", "32", "33", "63", "64", "255", "256", "257", "65537", "2147483648", "2147483649", "4294967295"} {
		checkTalk(t, "register "+r, "hart 8 => ok 1", "set 0 "+r+" 5 => ?", "set 0 "+r+" 0 => ?", "hart? 0 => "+regs(0, 0, 8))
	}
	for _, k := range []string{"2", "3", "4", "256", "2147483648", "4294967295"} {
		checkTalk(t, "hart "+k, "hart 8 => ok 1", "hart 9 => ok 2", "set "+k+" 1 5 => ?", "set "+k+" 0 5 => ?", "set "+k+" 32 5 => ?", "hart? 0 => "+regs(0, 0, 8), "hart? 1 => "+regs(0, 0, 9))
	}
	checkTalk(t, "no harts", "set 0 1 1 => ?", "hart 0 => ok 1", "hart? 0 => "+regs(0, 0, 0), "set 0 1 1 => ok", "set 1 1 1 => ?")
}

// TestSetOfOthers: N2: a hart that runs no more can be set, too.
func TestSetOfOthers(t *testing.T) {
	checkTalk(t, "halted", "words 115 => ok 4", "hart 0 => ok 1", "hart 8 => ok 2", "pick 0 1 => ok 1", "pick 1 1 => ok 2", "run => ran 2", "set 0 5 6 => ok", "set 1 7 8 => ok", "hart? 0 => "+regs(1, 0, 0, 5, 6), "hart? 1 => "+regs(2, 1, 8, 7, 8))
}

// TestPick: N2: picks of any numbers; what they say is asked by the run alone.
func TestPick(t *testing.T) {
	checkTalk(t, "any", "pick 0 0 => ok 1", "pick 4294967295 4294967295 => ok 2", "pick 3 400 => ok 3", "pick 4 401 => ok 4")
	checkTalk(t, "ahead of its hart", "pick 1 2 => ok 1", "run => bad 2", "hart 0 => ok 1", "run => bad 3", "hart 4 => ok 2", "words 19 => ok 4", "run => ran 1", "hart? 0 => "+regs(0, 0, 0), "hart? 1 => "+regs(2, 1, 4))
	lines := []string{"hart 0 => ok 1"}
	for k := range 39 {
		lines = append(lines, "pick 0 1 => ok "+number(k+1))
	}
	checkTalk(t, "so many as there are lines", lines...)
}

// TestPickBeyond: N2: harts that are none, and steps beyond what may be: run and fast are bad, and the machine and the picks stay.
func TestPickBeyond(t *testing.T) {
	loop := code(t, "addi x1,x1,1", "jal x0,-4") + " => ok 8"
	for _, odd := range []string{"2 1", "3 0", "4 1", "4294967295 1", "2147483648 1", "0 401", "1 402", "0 4294967295", "1 2147483648", "0 4294967297", "4294967296 1"} {
		want := "ok 2"
		bad := "bad 3"
		if odd == "0 4294967297" || odd == "4294967296 1" {
			want = "?"
		}
		talk := []string{loop, "hart 0 => ok 1", "hart 0 => ok 2", "pick 0 4 => ok 1", "pick " + odd + " => " + want}
		if want == "?" {
			checkTalk(t, "pick "+odd, append(talk, "run => ran 4", "hart? 0 => "+regs(0, 0, 0, 1, 2))...)
			continue
		}
		checkTalk(t, "pick "+odd, append(talk, "run => "+bad, "hart? 0 => "+regs(0, 0, 0), "fast 4 => "+bad, "hart? 0 => "+regs(0, 0, 0), "words => ok 8", "pick 1 1 => ok 3", "run => "+bad, "fast 0 => "+bad, "hart? 1 => "+regs(0, 0, 0))...)
	}
	checkTalk(t, "the most steps", loop, "hart 0 => ok 1", "pick 0 400 => ok 1", "pick 0 0 => ok 2", "run => ran 400", "hart? 0 => "+regs(0, 0, 0, 1, 200))
}
