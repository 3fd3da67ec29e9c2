package drive_test

import (
	"slices"
	"strconv"
	"strings"
	"testing"

	"ferrybridge/asm"
	"ferrybridge/decode"
	"ferrybridge/drive"
)

// play are the answers to lines, of which each must be one line.
func play(t *testing.T, name string, lines ...string) []string {
	t.Helper()
	got := drive.Play(strings.Join(lines, "\n") + "\n")
	answers := strings.Split(got, "\n")
	if len(answers) != len(lines)+1 || answers[len(lines)] != "" {
		t.Fatalf("%s: %d lines, and the answer is %q", name, len(lines), got)
	}
	return answers[:len(lines)]
}

// checkTalk plays lines that have their answers behind " => ".
func checkTalk(t *testing.T, name string, talk ...string) {
	t.Helper()
	var lines, want []string
	for _, both := range talk {
		line, answer, _ := strings.Cut(both, " => ")
		lines, want = append(lines, line), append(want, answer)
	}
	for k, got := range play(t, name, lines...) {
		if got != want[k] {
			t.Errorf("%s: line %d, %q: %q, want %q", name, k, lines[k], got, want[k])
		}
	}
}

// checkPlay holds the answer to a whole script.
func checkPlay(t *testing.T, script, want string) {
	t.Helper()
	if got := drive.Play(script); got != want {
		t.Errorf("Play(%q): %q, want %q", script, got, want)
	}
}

// code is the line that lays instructions in the memory.
func code(t *testing.T, texts ...string) string {
	t.Helper()
	line := "words"
	for _, text := range texts {
		i, wrong := asm.Parse(text)
		if wrong != 0 {
			t.Fatalf("%q is no text", text)
		}
		w, _ := decode.Encode(i)
		line += " " + number(int(w))
	}
	return line
}

func number(n int) string { return strconv.Itoa(n) }

// many is a part again and again.
func many(part string, times int) string { return strings.Repeat(part, times) }

// regs is what hart? answers of a hart whose registers are 0 but for some: pairs of a register and what it is.
func regs(state, cause, pc int, pairs ...int) string {
	all := make([]string, 35)
	for k := range all {
		all[k] = "0"
	}
	all[0], all[1], all[2] = number(state), number(cause), number(pc)
	for pair := range slices.Chunk(pairs, 2) {
		all[3+pair[0]] = number(pair[1])
	}
	return strings.Join(all, " ")
}

// TestExample: N2: lines of each kind behind each other.
func TestExample(t *testing.T) {
	checkTalk(t, "each kind",
		code(t, "addi x10,x0,7", "ecall")+" => ok 8",
		"hart 0 => ok 1",
		"set 0 17 1 => ok",
		"pick 0 9 => ok 1",
		"hart? 0 => "+regs(0, 0, 0, 17, 1),
		"run => ran 3 7",
		"hart? 0 => "+regs(2, 1, 8, 10, 7, 17, 1),
		"back 2 => ok",
		"hart? 0 => "+regs(0, 0, 4, 10, 7, 17, 1),
		"pick 0 1 => ok 1",
		"fast 4 => ran 1 7",
		"what 115 => is 58 0 0 0 0",
		"block 0 => 2",
		"show 0 => addi x10,x0,7",
		"back 1 => ?",
		"no line => ?",
	)
	checkPlay(t, "words 7341331 115\nhart 0\nset 0 17 1\npick 0 9\nrun\nback 1", "ok 8\nok 1\nok\nok 1\nran 3 7\nok\n")
}

// TestNoLines: N1: a script of no bytes has no lines, and so no answers.
func TestNoLines(t *testing.T) {
	checkPlay(t, "", "")
	var none string
	checkPlay(t, none, "")
}

// TestBytes10: N1: each byte 10 ends a line, an empty one, too; there is none behind the last one.
func TestBytes10(t *testing.T) {
	for count := range 60 {
		checkPlay(t, many("\n", count), many("?\n", min(count, 40)))
	}
	checkPlay(t, "\nwords", "?\nok 0\n")
	checkPlay(t, "\nwords\n", "?\nok 0\n")
	checkPlay(t, "words\n\nwords", "ok 0\n?\nok 0\n")
	checkPlay(t, "words\n\n", "ok 0\n?\n")
	checkPlay(t, "\n\nwords\n\n\n", "?\n?\nok 0\n?\n?\n")
}

// TestLastByte10: N1: what is behind the last byte 10 is a line, unless it is empty.
func TestLastByte10(t *testing.T) {
	for _, line := range []string{"words", "hart 0", "run", "?", " ", "\r", "\x00", "words 1 2"} {
		one := drive.Play(line)
		if strings.Count(one, "\n") != 1 || !strings.HasSuffix(one, "\n") {
			t.Errorf("Play(%q): %q", line, one)
		}
		checkPlay(t, line+"\n", one)
		checkPlay(t, line+"\n\n", one+"?\n")
	}
	checkPlay(t, "hart 0\nhart 4", "ok 1\nok 2\n")
	checkPlay(t, "hart 0\nhart 4\n", "ok 1\nok 2\n")
}

// TestOtherEnds: N1: nothing but a byte 10 ends a line.
func TestOtherEnds(t *testing.T) {
	for _, end := range []string{"\r", "\v", "\f", "\x00", "\x85", "\u0085", "\u2028", "\u2029", ";", "\\n", " "} {
		checkPlay(t, "words"+end+"words", "?\n")
		checkPlay(t, "words"+end+"\nwords", "?\nok 0\n")
		checkPlay(t, end, "?\n")
		checkPlay(t, end+"\n", "?\n")
	}
	checkPlay(t, "words\r\nhart 0\r\nhart 0\n", "?\n?\nok 1\n")
	checkPlay(t, "words\n\rhart 0", "ok 0\n?\n")
}

// TestFirstLines: N1: at most the first 40 lines count, with a byte 10 at the end, and without.
func TestFirstLines(t *testing.T) {
	for _, count := range []int{1, 2, 38, 39, 40, 41, 42, 43, 80, 81, 1000, 100000} {
		want := ""
		for k := range min(count, 40) {
			want += "ok " + number(4*k+4) + "\n"
		}
		script := many("words 1\n", count)
		checkPlay(t, script, want)
		checkPlay(t, strings.TrimSuffix(script, "\n"), want)
	}
	checkPlay(t, many("\n", 39)+"words", many("?\n", 39)+"ok 0\n")
	checkPlay(t, many("\n", 40)+"words", many("?\n", 40))
	checkPlay(t, many("\n", 40)+"words\n", many("?\n", 40))
	checkPlay(t, many("words\n", 40)+"\n", many("ok 0\n", 40))
	checkPlay(t, many("words\n", 39)+"\n", many("ok 0\n", 39)+"?\n")
	checkPlay(t, many("words\n", 40)+many("hart 0\n", 40), many("ok 0\n", 40))
}

// TestAtFirst: N1: a machine with no memory and no harts, and no picks.
func TestAtFirst(t *testing.T) {
	for line, want := range map[string]string{
		"words":       "ok 0",
		"hart 7":      "ok 1",
		"pick 0 0":    "ok 1",
		"set 0 1 1":   "?",
		"run":         "bad 2",
		"fast 4":      "bad 2",
		"hart? 0":     "?",
		"what 115":    "is 58 0 0 0 0",
		"block 0":     "0",
		"show 0":      "no",
		"back 0":      "?",
		"back 1":      "?",
		"words 1":     "ok 4",
		"words 1 2 3": "ok 12",
	} {
		checkPlay(t, line, want+"\n")
	}
	checkPlay(t, "hart 0\nrun", "ok 1\nran 0\n")
}

// TestSameAgain: P3: an answer hangs on the script alone: of what an earlier one laid up nothing is kept.
func TestSameAgain(t *testing.T) {
	scripts := []string{
		"words 7341331 115\nhart 0\nset 0 17 1\npick 0 9\nrun\nback 2\npick 0 1",
		"words\nhart 0\npick 0 1\nrun\nhart? 0\n",
		"back 0\nrun\n",
		many("words 1 2 3 4\n", 50),
		many("hart 4\n", 5) + "fast 64",
	}
	var first []string
	for _, s := range scripts {
		first = append(first, drive.Play(s))
	}
	for k, s := range slices.Backward(scripts) {
		checkPlay(t, s, first[k])
		checkPlay(t, s, first[k])
	}
}
