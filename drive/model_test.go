package drive_test

import (
	"encoding/binary"
	"fmt"
	"regexp"
	"slices"
	"strconv"
	"strings"
	"testing"

	"ferrybridge/api"
	"ferrybridge/asm"
	"ferrybridge/block"
	"ferrybridge/decode"
	"ferrybridge/drive"
	"ferrybridge/engine"
	"ferrybridge/machine"
	"ferrybridge/mem"
	"ferrybridge/undo"
)

// A model of the chapter: lines are known by expressions, and whether a run may be taken back is looked for in the lines, from the last one back.

const aNumber = `(0|[1-9][0-9]{0,9})`

// lineOf is the expression of a word with so many NUMBERs, as far as their digits go.
func lineOf(word string, count int) *regexp.Regexp {
	return regexp.MustCompile(`\A` + regexp.QuoteMeta(word) + strings.Repeat(` `+aNumber, count) + `\z`)
}

var (
	wordsLine  = regexp.MustCompile(`\Awords(?: ` + aNumber + `)*\z`)
	hartLine   = lineOf("hart", 1)
	setLine    = lineOf("set", 3)
	pickLine   = lineOf("pick", 2)
	runLine    = lineOf("run", 0)
	fastLine   = lineOf("fast", 1)
	askedLine  = lineOf("hart?", 1)
	whatLine   = lineOf("what", 1)
	blockLine  = lineOf("block", 1)
	showLine   = lineOf("show", 1)
	backLine   = lineOf("back", 1)
	otherLines = []*regexp.Regexp{hartLine, setLine, pickLine, runLine, fastLine, askedLine, whatLine, blockLine, showLine, backLine}
)

// model is what a script has laid up, and all lines so far, with their answers.
type model struct {
	m              api.Machine
	picks          []api.Pick
	ahead          api.Machine // of the last run that was not bad
	aheadPicks     []api.Pick
	lines, answers []string
}

// modelPlay is what Play is to answer.
func modelPlay(script string) string {
	var d model
	lines := strings.Split(script, "\n")
	if lines[len(lines)-1] == "" {
		lines = lines[:len(lines)-1]
	}
	for _, line := range lines[:min(len(lines), 40)] {
		answer := d.answer(line)
		d.lines, d.answers = append(d.lines, line), append(d.answers, answer)
	}
	return strings.Join(append(d.answers, ""), "\n")
}

// numbersOf are the NUMBERs of a line that is one of the forms; false, if it is none, or a number is too great.
func numbersOf(line string) ([]int, bool) {
	if !wordsLine.MatchString(line) && !slices.ContainsFunc(otherLines, func(r *regexp.Regexp) bool { return r.MatchString(line) }) {
		return nil, false
	}
	var all []int
	for _, part := range strings.Split(line, " ")[1:] {
		n, _ := strconv.Atoi(part)
		if n > 1<<32-1 {
			return nil, false
		}
		all = append(all, n)
	}
	return all, true
}

func (d *model) answer(line string) string {
	n, ok := numbersOf(line)
	if !ok {
		return "?"
	}
	switch {
	case wordsLine.MatchString(line):
		return d.words(n)
	case hartLine.MatchString(line) && len(d.m.Harts) < 4:
		d.m.Harts = append(d.m.Harts, api.Hart{PC: uint32(n[0])})
		return fmt.Sprint("ok ", len(d.m.Harts))
	case setLine.MatchString(line) && n[0] < len(d.m.Harts) && 0 < n[1] && n[1] < 32:
		d.m.Harts[n[0]].Regs[n[1]] = uint32(n[2])
		return "ok"
	case pickLine.MatchString(line) && len(d.picks) < 300:
		d.picks = append(d.picks, api.Pick{Hart: n[0], Steps: n[1]})
		return fmt.Sprint("ok ", len(d.picks))
	case runLine.MatchString(line):
		return d.run()
	case fastLine.MatchString(line):
		s, _, e := engine.Run(d.m, d.picks, n[0])
		return d.ran(s, e)
	case askedLine.MatchString(line) && n[0] < len(d.m.Harts):
		h := d.m.Harts[n[0]]
		return fmt.Sprint(h.State, " ", h.Cause, " ", h.PC, " ", strings.Trim(fmt.Sprint(h.Regs), "[]"))
	case whatLine.MatchString(line):
		return whatOf(uint32(n[0]))
	case blockLine.MatchString(line):
		return fmt.Sprint(len(block.Make(d.m.Memory, uint32(n[0])).Ins))
	case showLine.MatchString(line):
		return d.show(uint32(n[0]))
	case backLine.MatchString(line) && d.mayBack():
		return d.back(n[0])
	}
	return "?"
}

func (d *model) words(n []int) string {
	memory := slices.Clone(d.m.Memory)
	for _, w := range n {
		memory = binary.LittleEndian.AppendUint32(memory, uint32(w))
	}
	if len(memory) > 4096 {
		return "?"
	}
	d.m.Memory = memory
	return fmt.Sprint("ok ", len(memory))
}

func (d *model) run() string {
	ahead := api.Machine{Memory: slices.Clone(d.m.Memory), Harts: slices.Clone(d.m.Harts)}
	picks := slices.Clone(d.picks)
	s, e := machine.Run(d.m, d.picks)
	if e == api.OK {
		d.ahead, d.aheadPicks = ahead, picks
	}
	return d.ran(s, e)
}

func (d *model) ran(s api.Shown, e api.Errno) string {
	if e != api.OK {
		return fmt.Sprint("bad ", int(e))
	}
	d.m, d.picks = s.Machine, nil
	return strings.TrimSuffix(fmt.Sprint("ran ", s.Steps, " ", strings.Trim(fmt.Sprint(s.Out), "[]")), " ")
}

func (d *model) show(pc uint32) string {
	w, there := mem.Load(d.m.Memory, api.LW, pc)
	i, is := decode.Decode(w)
	if !there || !is {
		return "no"
	}
	text, _ := asm.Print(i)
	return text
}

// mayBack goes back over the lines up to the last run that was not bad.
func (d *model) mayBack() bool {
	for k, line := range slices.Backward(d.lines) {
		answer := d.answers[k]
		if _, is := numbersOf(line); !is {
			continue
		}
		switch {
		case runLine.MatchString(line) && !strings.HasPrefix(answer, "bad"):
			return true
		case wordsLine.MatchString(line), setLine.MatchString(line), fastLine.MatchString(line):
			return false
		case hartLine.MatchString(line) && answer != "?", backLine.MatchString(line) && answer == "ok":
			return false
		}
	}
	return false
}

func (d *model) back(steps int) string {
	_, l, _ := undo.Run(d.ahead, d.aheadPicks)
	m, e := undo.Back(d.m, l, steps)
	if e != api.OK {
		return "?"
	}
	d.m = m
	return "ok"
}

// strewn is a row of numbers by a fixed rule.
type strewn uint32

func (s *strewn) next() uint32 {
	*s ^= *s << 13
	*s ^= *s >> 17
	*s ^= *s << 5
	return uint32(*s)
}

func (s *strewn) below(n int) int { return int(s.next() >> 7 % uint32(n)) }

func (s *strewn) one(of ...string) string { return of[s.below(len(of))] }

// program is a line of words, mostly of instructions that do something to each other.
func (s *strewn) program() string {
	line := "words"
	for range 1 + s.below(12) {
		i := api.Ins{Op: api.ADDI, Rd: 10, Rs1: s.below(3), Imm: int32(s.below(64))}
		switch s.below(10) {
		case 0:
			i = api.Ins{Op: api.ECALL}
		case 1:
			i = api.Ins{Op: api.SW, Rs1: s.below(3), Rs2: s.below(12), Imm: int32(4 * s.below(16))}
		case 2:
			i = api.Ins{Op: api.LW, Rd: s.below(12), Imm: int32(s.below(80))}
		case 3:
			i = api.Ins{Op: api.JAL, Rd: s.below(3), Imm: int32(4 * (s.below(12) - 8))}
		case 4:
			i = api.Ins{Op: api.LRW + s.below(11), Rd: s.below(12), Rs1: s.below(3)}
		case 5:
			i = api.Ins{Op: api.BEQ + s.below(6), Rs1: s.below(12), Rs2: s.below(12), Imm: int32(4 * (s.below(8) - 4))}
		case 6:
			i = api.Ins{Op: s.below(60), Rd: s.below(40), Rs1: s.below(32), Rs2: s.below(32)}
		}
		w, _ := decode.Encode(i)
		line += fmt.Sprint(" ", w)
	}
	return line
}

// some is a NUMBER, mostly a small one.
func (s *strewn) some() string {
	switch s.below(12) {
	case 0:
		return fmt.Sprint(s.next())
	case 1:
		return s.one("4294967295", "4294967296", "400", "401", "4096", "00", "01", "", "-1", "10000000000", "2147483648", "x")
	case 2:
		return fmt.Sprint(s.below(80))
	}
	return fmt.Sprint(s.below(5))
}

// line is some line.
func (s *strewn) line() string {
	small, odd := s.one("0", "0", "0", "1", "2"), s.some()
	switch s.below(24) {
	case 0, 1:
		return s.program()
	case 2, 3:
		return "hart " + fmt.Sprint(4*s.below(6))
	case 4:
		return "set " + small + " 17 " + s.one("0", "1", "1", "1", "2")
	case 5:
		return "set " + s.some() + " " + odd + " " + s.some()
	case 6, 7, 8, 9:
		return "pick " + small + " " + fmt.Sprint(s.below(12))
	case 10:
		return "pick " + s.some() + " " + odd
	case 11, 12, 13:
		return "run"
	case 14:
		return "fast " + s.one("0", "1", "4", "64", odd)
	case 15, 16, 17:
		return "back " + s.one("0", "1", "2", "3", "9", odd)
	case 18:
		return s.one("what ", "block ", "show ", "hart? ", "hart ", "fast ", "back ") + odd
	case 19:
		return s.one("show ", "block ") + fmt.Sprint(4*s.below(20))
	case 20:
		return "what " + fmt.Sprint(s.next()&^127|19)
	case 21:
		return s.one("words", "words 1", "words"+strings.Repeat(" 3", 1020), "words"+strings.Repeat(" 3", 1025), "words "+odd)
	case 22:
		return s.one("", "?", "run ", "run 1", " run", "hart", "set 0 1", "fast", "back", "back 1 1", "pick 0", "Run", "words ", "hart?0")
	}
	return "hart? " + small
}

// script is some script, that begins so that something can be done, or not.
func (s *strewn) script() string {
	var lines []string
	if s.below(8) > 0 {
		lines = append(lines, s.program(), s.program(), "hart 0", "hart 4", "set 0 17 1", "set 1 17 1", "pick 0 3", "pick 1 4")
	}
	for range s.below(38) {
		lines = append(lines, s.line())
	}
	return strings.Join(lines, "\n") + s.one("", "\n", "\n\n")
}

// checkModel holds the answer to a script against the model, and against the answers to all its beginnings that end with a byte 10 (N3).
func checkModel(t *testing.T, script string) {
	t.Helper()
	got := drive.Play(script)
	if want := modelPlay(script); got != want {
		t.Fatalf("Play(%q): %q, want %q", script, got, want)
	}
	checkBeginnings(t, script, got)
}

// checkBeginnings: N3, and that each line that counts has one line of answer.
func checkBeginnings(t *testing.T, script, whole string) {
	t.Helper()
	count := 0
	for at := range len(script) {
		if script[at] != '\n' {
			continue
		}
		count++
		part := drive.Play(script[:at+1])
		if !strings.HasPrefix(whole, part) {
			t.Fatalf("Play(%q) is %q, and of its first %d lines %q", script, whole, count, part)
		}
		if answers := strings.Count(part, "\n"); answers != min(count, 40) {
			t.Fatalf("Play(%q): %d answers to %d lines", script[:at+1], answers, count)
		}
	}
}

// TestModel: N1 to N3: many scripts against the model.
func TestModel(t *testing.T) {
	s := strewn(1)
	seen := map[string]int{}
	for range 3000 {
		script := s.script()
		checkModel(t, script)
		lines := strings.Split(script, "\n")
		for k, answer := range strings.Split(drive.Play(script), "\n") {
			if k < len(lines) {
				seen[firstWord(lines[k])+", "+firstWord(answer)]++
			}
		}
	}
	for _, both := range []string{
		"words, ok", "words, ?", "hart, ok", "hart, ?", "set, ok", "set, ?", "pick, ok", "pick, ?", "run, ran", "run, bad", "run, ?", "fast, ran", "fast, bad", "fast, ?",
		"hart?, 0", "hart?, 1", "hart?, 2", "hart?, ?", "what, is", "what, no", "what, ?", "block, 0", "block, 1", "block, 2", "block, ?", "show, addi", "show, no", "show, ?", "back, ok", "back, ?",
	} {
		if seen[both] < 10 {
			t.Errorf("%q: %d of them", both, seen[both])
		}
	}
}

// firstWord is the first word of a line.
func firstWord(line string) string {
	word, _, _ := strings.Cut(line, " ")
	return word
}

// TestBeginnings: N3: scripts cut behind each of their bytes 10: with more lines than count, with empty ones, without a last byte 10.
func TestBeginnings(t *testing.T) {
	plain := strings.Join(slices.Concat(ready(t), withBack()), "\n")
	for _, script := range []string{
		"", "\n", "\n\n\n", "words", "words\n", "words\nhart 0", "\nwords\n\nhart 0\n\n", plain, plain + "\n", plain + "\n\n" + plain,
		plain + "\n" + plain + "\n" + plain + "\n" + plain, many("\n", 100), many("words 1\n", 39) + "hart 0", many("words 1\n", 40) + "hart 0", many("words 1\n", 41) + "hart 0\n",
		many("hart 0\n", 20) + many("pick 3 1\n", 10) + "run\nback 5\nback 5\n" + many("hart? 3\n", 10),
	} {
		checkModel(t, script)
	}
}

// FuzzPlay: N1 to N3: whatever the script is, the answer is the model's.
func FuzzPlay(f *testing.F) {
	s := strewn(7)
	for range 40 {
		f.Add(s.script())
	}
	f.Add("")
	f.Add(many("\n", 41))
	f.Fuzz(checkModel)
}
