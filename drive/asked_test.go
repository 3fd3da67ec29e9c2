package drive_test

import (
	"fmt"
	"testing"

	"ferrybridge/decode"
)

// TestWhat: N2: Op, Rd, Rs1, Rs2, and Imm as a word, of words that are instructions; no of others.
func TestWhat(t *testing.T) {
	checkTalk(t, "each form",
		"what 19 => is 19 0 0 0 0",
		"what 4293918867 => is 19 1 0 0 4294967295",
		"what 2147484063 => no",
		"what 2147483703 => is 1 0 0 0 2147483648",
		"what 4294963383 => is 1 1 0 0 4294963200",
		"what 4292870127 => is 3 31 0 0 4294967292",
		"what 4294119139 => is 5 0 6 31 4294967292",
		"what 4261748771 => is 18 0 10 0 4294967264",
		"what 1048691 => is 59 0 0 0 0",
		"what 115 => is 58 0 0 0 0",
		"what 114 => no", "what 116 => no", "what 0 => no", "what 4294967295 => no", "what 2097267 => no",
	)
	w := uint32(1)
	for range 4000 {
		w = w*1664525 + 1013904223
		for _, told := range []uint32{19, 51, 99, 47, 3, 35, 111, 55, 103, w & 127} {
			n := w>>7<<7 | told
			checkPlay(t, fmt.Sprint("what ", n), whatOf(n)+"\n")
		}
	}
}

// whatOf is what a word is, by way of the whole instruction.
func whatOf(w uint32) string {
	i, ok := decode.Decode(w)
	if !ok {
		return "no"
	}
	return fmt.Sprint("is ", i.Op, " ", i.Rd, " ", i.Rs1, " ", i.Rs2, " ", (int64(i.Imm)+1<<32)%(1<<32))
}

// TestBlock: N2: how many instructions there are, at places with and without, within and beyond the memory.
func TestBlock(t *testing.T) {
	checkTalk(t, "block", "block 0 => 0", "block 4294967295 => 0",
		code(t, "addi x1,x1,1", "add x1,x1,x1", "jal x0,-8", "addi x0,x0,0")+" => ok 16", "words 0 => ok 20", code(t, "ecall")+" => ok 24",
		"block 0 => 3", "block 4 => 2", "block 8 => 1", "block 12 => 1", "block 16 => 0", "block 20 => 1", "block 24 => 0", "block 28 => 0",
		"block 1 => 0", "block 2 => 0", "block 3 => 0", "block 4096 => 0", "block 4294967292 => 0", "block 4294967295 => 0", "block 2147483648 => 0")
	checkTalk(t, "the most", "words"+many(" 19", 1024)+" => ok 4096", "block 0 => 16", "block 4032 => 16", "block 4036 => 15", "block 4092 => 1", "block 4096 => 0", "block 4094 => 0")
}

// TestShow: N2: the text of the instruction there; no, where there is none.
func TestShow(t *testing.T) {
	checkTalk(t, "show", "show 0 => no", "show 4294967295 => no",
		code(t, "lw x5,-4(x2)", "amoadd.w.aq x0,x1,(x2)", "lui x1,-1", "ecall", "ebreak")+" => ok 20", "words 0 4294967295 => ok 28",
		"show 0 => lw x5,-4(x2)", "show 4 => amoadd.w.aq x0,x1,(x2)", "show 8 => lui x1,-1", "show 12 => ecall", "show 16 => ebreak",
		"show 20 => no", "show 24 => no", "show 28 => no", "show 32 => no", "show 1 => no", "show 2 => no", "show 3 => no", "show 17 => no",
		"show 4096 => no", "show 4294967292 => no", "show 4294967295 => no", "show 2147483648 => no")
	checkTalk(t, "the last word", "words"+many(" 115", 1024)+" => ok 4096", "show 4092 => ecall", "show 4093 => no", "show 4096 => no")
}

// TestAskedBehindRun: N2: block and show tell of the memory as it is now: behind run, fast and back.
func TestAskedBehindRun(t *testing.T) {
	checkTalk(t, "now", code(t, "sw x5,4(x0)", "addi x1,x1,1", "ebreak")+" => ok 12", "hart 0 => ok 1", "set 0 5 115 => ok",
		"block 0 => 3", "show 4 => addi x1,x1,1", "pick 0 1 => ok 1", "run => ran 1", "block 0 => 2", "show 4 => ecall",
		"back 1 => ok", "block 0 => 3", "show 4 => addi x1,x1,1", "pick 0 1 => ok 1", "fast 8 => ran 1", "block 0 => 2", "show 4 => ecall")
}

// TestAskedChangesNothing: N2: lines that only ask change nothing of the machine or the picks, and do not end back.
func TestAskedChangesNothing(t *testing.T) {
	want := play(t, "without", append(ready(t), withBack()...)...)
	for _, line := range []string{"hart? 0", "hart? 1", "hart? 2", "hart? 9", "what 0", "what 115", "block 0", "block 1", "block 4096", "show 0", "show 2", "show 4096"} {
		got := play(t, "with", append(append(ready(t), line), withBack()...)...)
		at := len(ready(t))
		for k, answer := range want[at:] {
			if got[at+1+k] != answer {
				t.Errorf("behind %q: line %d: %q, want %q", line, k, got[at+1+k], answer)
			}
		}
	}
}
