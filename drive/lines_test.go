package drive_test

import (
	"slices"
	"strings"
	"testing"
)

// lineForm is a word, with how many NUMBERs it has; some NUMBERs with which it answers no ? in the state behind ready.
type lineForm struct {
	word    string
	count   int
	numbers []string
}

var lineForms = []lineForm{
	{"hart", 1, []string{"4"}},
	{"set", 3, []string{"0", "1", "5"}},
	{"pick", 2, []string{"0", "1"}},
	{"run", 0, nil},
	{"fast", 1, []string{"4"}},
	{"hart?", 1, []string{"0"}},
	{"what", 1, []string{"115"}},
	{"block", 1, []string{"0"}},
	{"show", 1, []string{"0"}},
	{"back", 1, []string{"1"}},
}

func (f lineForm) line() string { return strings.Join(append([]string{f.word}, f.numbers...), " ") }

// ready are lines behind which each word has something to do, back too.
func ready(t *testing.T) []string {
	return []string{
		code(t, "addi x10,x10,7", "sw x10,64(x0)", "ecall", "jal x0,-12"), "words" + many(" 9", 20),
		"hart 0", "hart 0", "set 0 17 1", "pick 0 7", "pick 1 2", "run", "pick 0 3",
	}
}

// probes are lines whose answers tell whether anything has changed.
func probes() []string {
	return []string{
		"hart? 0", "hart? 1", "words", "hart 8", "pick 0 1", "run", "hart? 0",
	}
}

// withBack are the probes behind a back: what ends back is told by them.
func withBack() []string { return append([]string{"back 3"}, probes()...) }

// checkNothing: a line answers ?, and all is as if it had not been there.
func checkNothing(t *testing.T, line string) {
	t.Helper()
	checkNothingBehind(t, ready(t), line, withBack())
}

func checkNothingBehind(t *testing.T, ahead []string, line string, behind []string) {
	t.Helper()
	want := play(t, "without", slices.Concat(ahead, behind)...)
	got := play(t, "with", slices.Concat(ahead, []string{line}, behind)...)
	at := len(ahead)
	if got[at] != "?" {
		t.Errorf("%q: %q", line, got[at])
	}
	if got = slices.Delete(got, at, at+1); !slices.Equal(got, want) {
		t.Errorf("behind %q: %q, want %q", line, got[at:], want[at:])
	}
}

// checkSomething: a line answers no ? behind ready.
func checkSomething(t *testing.T, line string) {
	t.Helper()
	if got := play(t, line, append(ready(t), line)...); got[len(got)-1] == "?" || got[len(got)-1] == "" {
		t.Errorf("%q: %q", line, got[len(got)-1])
	}
}

// TestProbes: the state behind ready is such that back, and each probe, tells something.
func TestProbes(t *testing.T) {
	want := []string{
		"ok",
		regs(0, 0, 8, 10, 14, 17, 1), regs(0, 0, 0), "ok 96", "ok 3", "ok 2", "ran 4 14", regs(0, 0, 8, 10, 21, 17, 1),
	}
	got := play(t, "probes", append(ready(t), withBack()...)...)
	if got = got[len(ready(t)):]; !slices.Equal(got, want) {
		t.Errorf("%q, want %q", got, want)
	}
}

// TestCounts: N2: each word with as many NUMBERs as is said, with fewer, and with more.
func TestCounts(t *testing.T) {
	for _, f := range lineForms {
		checkSomething(t, f.line())
		for count := range 7 {
			if count != f.count {
				line := f.word + strings.Join(append([]string{""}, slices.Repeat([]string{"1"}, count)...), " ")
				checkNothing(t, line)
			}
		}
		checkNothing(t, f.line()+" 0")
		checkNothing(t, f.line()+many(" 1", 2000))
	}
	for count := range 20 {
		checkSomething(t, "words"+many(" 1", count))
	}
}

// TestBlanks: N2: one blank ahead of each NUMBER, and none elsewhere.
func TestBlanks(t *testing.T) {
	forms := append(slices.Clone(lineForms), lineForm{"words", 0, nil}, lineForm{"words", 1, []string{"5"}}, lineForm{"words", 2, []string{"5", "6"}})
	for _, f := range forms {
		checkNothing(t, " "+f.line())
		checkNothing(t, f.line()+" ")
		checkNothing(t, f.line()+"  ")
		checkNothing(t, "  "+f.line()+" ")
		for at := range f.line() {
			if f.line()[at] == ' ' {
				checkNothing(t, f.line()[:at]+" "+f.line()[at:])
				if less := f.line()[:at] + f.line()[at+1:]; less != "words 56" {
					checkNothing(t, less)
				}
				for _, other := range []string{"\t", ",", "\r", "\v", "\f", "\x00", "\u00a0", "\u2003", "_", ";", ":", "=", " ,", ", ", " \t", "\t "} {
					checkNothing(t, f.line()[:at]+other+f.line()[at+1:])
				}
			}
		}
	}
	for _, line := range []string{" ", "  ", "\t", " 1", "1", "1 2", " words", "words,1", "words 1,2"} {
		checkNothing(t, line)
	}
}

// TestOtherWords: N2: words with great letters, with letters that are others, that are missing, or that are too many, and with bytes that are no letters.
func TestOtherWords(t *testing.T) {
	for _, f := range append(slices.Clone(lineForms), lineForm{"words", 2, []string{"5", "6"}}) {
		more := strings.TrimPrefix(f.line(), f.word)
		checkNothing(t, strings.ToUpper(f.word)+more)
		for at := range f.word {
			ahead, c, behind := f.word[:at], f.word[at:at+1], f.word[at+1:]+more
			if great := strings.ToUpper(c); great != c {
				checkNothing(t, ahead+great+behind)
			}
			for _, other := range []string{"", c + c, "\x00", "\xff", "é", "0", "-", "q", c + "\u0301"} {
				if ahead+other+behind != "hart"+more {
					checkNothing(t, ahead+other+behind)
				}
			}
		}
		for _, other := range []string{"?", "\x00", "\xff", "s", "1", "\r", "\xc3"} {
			if f.word+other != "hart?" {
				checkNothing(t, f.word+other+more)
			}
			checkNothing(t, other+f.line())
			checkNothing(t, f.line()+other+"x")
		}
	}
	for _, line := range []string{"", "?", "ok", "bad", "ran 0", "no", "is", "help", "quit", "#", "\xef\xbb\xbfwords", "Words", "word 1", "harts 1", "hart ?", "hart ? 0", "runs", "run0", "fast4", "pick0 1", "words1", "undo 1", "step 1", "set? 0", "run?", "what? 115"} {
		checkNothing(t, line)
	}
}

// TestNumbersThatAreNone: N1: a NUMBER is 0 to 4294967295, in digits, no 0 ahead of others: at each place where one stands.
func TestNumbersThatAreNone(t *testing.T) {
	odd := []string{
		"", "00", "01", "007", "0115", "000", "00000000000", "04294967295", "4294967296", "4294967297", "9999999999", "5000000000",
		"10000000000", "42949672950", "42949672951", "99999999999", "18446744073709551615", "18446744073709551616", "18446744073709551617", "184467440737095516160",
		"340282366920938463463374607431768211456", many("9", 400), many("0", 400), "1" + many("0", 400),
		"+1", "-1", "+0", "-0", "--1", "1-", "1+", "-4294967296", "1.", "1.0", ".1", "1e1", "0x1", "0X1", "0b1", "0o1", "x1", "1x", "a", "ff", "1_0", "1,0", "1'0", "(1)", "'1'",
		"\u0663", "\uff13", "1\u0663", "1\x00", "\x001", "1\r", "\t1", "1\t", "?", "/", ":", "0/", "0:", "\xff", "1\xff", "inf", "nan", "one",
	}
	for _, f := range append(slices.Clone(lineForms), lineForm{"words", 3, []string{"5", "6", "7"}}) {
		for place := range f.numbers {
			for _, n := range odd {
				numbers := slices.Clone(f.numbers)
				numbers[place] = n
				checkNothing(t, lineForm{f.word, f.count, numbers}.line())
			}
		}
	}
}

// TestNumbersAtBounds: N1: 0, the greatest NUMBER, those of ten digits around it.
func TestNumbersAtBounds(t *testing.T) {
	checkTalk(t, "what",
		"what 0 => no", "what 4294967295 => no", "what 4294967294 => no", "what 4294967296 => ?", "what 1000000000 => no", "what 4293918867 => is 19 1 0 0 4294967295",
		"what 999999999 => no", "what 10000000000 => ?", "what 4294967300 => ?", "what 4300000000 => ?", "what 5000000000 => ?", "what 00 => ?", "what 0115 => ?", "what 115 => is 58 0 0 0 0",
	)
	checkTalk(t, "hart",
		"hart 0 => ok 1", "hart 4294967295 => ok 2", "hart 4294967296 => ?", "hart 42949672950 => ?", "hart 01 => ?", "hart? 0 => "+regs(0, 0, 0), "hart? 1 => "+regs(0, 0, 4294967295),
	)
	for n := range 40 {
		checkTalk(t, "small", "hart "+number(n)+" => ok 1", "hart? 0 => "+regs(0, 0, n))
	}
	for n, k := 1, 0; k < 10; n, k = 10*n, k+1 {
		checkTalk(t, "tens", "hart "+number(n)+" => ok 1", "hart? 0 => "+regs(0, 0, n), "hart "+number(n-1)+" => ok 2", "hart? 1 => "+regs(0, 0, n-1))
	}
}

// TestLongLines: P1: lines of very many bytes.
func TestLongLines(t *testing.T) {
	const times = 1 << 21
	for _, part := range []string{" ", "0", "1", " 1", "words ", "words 0 ", "?", "\xff", "\r"} {
		checkPlay(t, many(part, times/len(part)), "?\n")
		checkPlay(t, "what "+many(part, times/len(part)), "?\n")
	}
	checkPlay(t, "words"+many(" 1", times)+"\nwords\nhart 0", "?\nok 0\nok 1\n")
	checkPlay(t, "words"+many(" 1", times)+" \nwords\nhart 0", "?\nok 0\nok 1\n")
}
