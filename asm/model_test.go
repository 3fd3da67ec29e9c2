package asm_test

import (
	"regexp"
	"strconv"
	"strings"
	"testing"

	"ferrybridge/api"
	"ferrybridge/asm"
)

// A model of the chapter, that holds a text against a pattern of its instruction.

// tableRow is a name of an instruction: what follows it, as the chapter writes it, and the numbers that Imm may be: from low to high by step. Of an atomic one they are the one number that the name tells.
type tableRow struct {
	op              int
	name, follows   string
	low, high, step int
}

var tableRows = allRows()

func allRows() []tableRow {
	var rows []tableRow
	add := func(first int, follows string, low, high, step int, names ...string) {
		for k, name := range names {
			rows = append(rows, tableRow{first + k, name, follows, low, high, step})
		}
	}
	add(api.LUI, "Rd,Upper", -1<<31, 1<<31-4096, 4096, "lui", "auipc")
	add(api.JAL, "Rd,Imm", -1<<20, 1<<20-2, 2, "jal")
	add(api.JALR, "Rd,Rs1,Imm", -2048, 2047, 1, "jalr")
	add(api.BEQ, "Rs1,Rs2,Imm", -4096, 4094, 2, "beq", "bne", "blt", "bge", "bltu", "bgeu")
	add(api.LB, "Rd,Imm(Rs1)", -2048, 2047, 1, "lb", "lh", "lw", "lbu", "lhu")
	add(api.SB, "Rs2,Imm(Rs1)", -2048, 2047, 1, "sb", "sh", "sw")
	add(api.ADDI, "Rd,Rs1,Imm", -2048, 2047, 1, "addi", "slti", "sltiu", "xori", "ori", "andi")
	add(api.SLLI, "Rd,Rs1,Imm", 0, 31, 1, "slli", "srli", "srai")
	add(api.ADD, "Rd,Rs1,Rs2", 0, 0, 1, "add", "sub", "sll", "slt", "sltu", "xor", "srl", "sra", "or", "and")
	add(api.MUL, "Rd,Rs1,Rs2", 0, 0, 1, "mul", "mulh", "mulhsu", "mulhu", "div", "divu", "rem", "remu")
	for imm, more := range []string{"", ".rl", ".aq", ".aqrl"} {
		add(api.LRW, "Rd,(Rs1)", imm, imm, 1, "lr.w"+more)
		add(api.SCW, "Rd,Rs2,(Rs1)", imm, imm, 1, "sc.w"+more)
		add(api.AMOSWAP, "Rd,Rs2,(Rs1)", imm, imm, 1, "amoswap.w"+more, "amoadd.w"+more, "amoxor.w"+more, "amoand.w"+more, "amoor.w"+more,
			"amomin.w"+more, "amomax.w"+more, "amominu.w"+more, "amomaxu.w"+more)
	}
	add(api.FENCE, "Rd,Rs1,Imm", -2048, 2047, 1, "fence")
	add(api.ECALL, "", 0, 0, 1, "ecall", "ebreak")
	return rows
}

func (r tableRow) has(field string) bool { return strings.Contains(r.follows, field) }

// takes says whether the row is that of i, which Decode may answer.
func (r tableRow) takes(i api.Ins) bool {
	fits := func(field string, n int) bool { return n == 0 || r.has(field) && 0 < n && n < 32 }
	imm := int(i.Imm)
	return i.Op == r.op && fits("Rd", i.Rd) && fits("Rs1", i.Rs1) && fits("Rs2", i.Rs2) &&
		r.low <= imm && imm <= r.high && imm%r.step == 0
}

// text is that of i, which the row takes.
func (r tableRow) text(i api.Ins) string {
	fields := strings.NewReplacer(
		"Rd", "x"+strconv.Itoa(i.Rd), "Rs1", "x"+strconv.Itoa(i.Rs1), "Rs2", "x"+strconv.Itoa(i.Rs2),
		"Imm", strconv.Itoa(int(i.Imm)), "Upper", strconv.Itoa(int(i.Imm)/4096),
	)
	return strings.TrimSuffix(r.name+" "+fields.Replace(r.follows), " ")
}

// pattern is that of what follows the name, its fields being named parts.
func (r tableRow) pattern() *regexp.Regexp {
	const number = `0|-?[1-9][0-9]*`
	const register = `0|[1-9]|[12][0-9]|3[01]`
	fields := strings.NewReplacer(
		"(", `\(`, ")", `\)`,
		"Rd", "x(?P<Rd>"+register+")", "Rs1", "x(?P<Rs1>"+register+")", "Rs2", "x(?P<Rs2>"+register+")",
		"Imm", "(?P<Imm>"+number+")", "Upper", "(?P<Upper>"+number+")",
	)
	return regexp.MustCompile(`\A` + fields.Replace(r.follows) + `\z`)
}

// reader is a row and its pattern.
type reader struct {
	row     tableRow
	pattern *regexp.Regexp
}

var readers = readersByName()

func readersByName() map[string]reader {
	all := map[string]reader{}
	for _, r := range tableRows {
		all[r.name] = reader{r, r.pattern()}
	}
	return all
}

// modelParse is the instruction whose text s is, and true; else an empty one, and false.
func modelParse(s string) (api.Ins, bool) {
	name, follows, blank := strings.Cut(s, " ")
	r, known := readers[name]
	if !known || blank != (r.row.follows != "") {
		return api.Ins{}, false
	}
	parts := r.pattern.FindStringSubmatch(follows)
	if parts == nil {
		return api.Ins{}, false
	}
	return r.row.filled(r.pattern.SubexpNames(), parts)
}

// filled has the fields that the names of the parts tell.
func (r tableRow) filled(names, parts []string) (api.Ins, bool) {
	i, imm := api.Ins{Op: r.op}, r.low
	for k, name := range names {
		// What is too great for an int is answered as the greatest one, which no row takes.
		n, _ := strconv.Atoi(parts[k])
		switch name {
		case "Rd":
			i.Rd = n
		case "Rs1":
			i.Rs1 = n
		case "Rs2":
			i.Rs2 = n
		case "Imm":
			imm = n
		case "Upper":
			if n < r.low/4096 || n > r.high/4096 {
				return api.Ins{}, false
			}
			imm = n * 4096
		}
	}
	if imm < r.low || imm > r.high || imm%r.step != 0 {
		return api.Ins{}, false
	}
	i.Imm = int32(imm)
	return i, true
}

// modelPrint is the text of i, and true; else nothing, and false.
func modelPrint(i api.Ins) (string, bool) {
	for _, r := range tableRows {
		if r.takes(i) {
			return r.text(i), true
		}
	}
	return "", false
}

// checkPrint holds Print against the model, and, if there is a text, Parse of that against i.
func checkPrint(t *testing.T, i api.Ins) {
	t.Helper()
	want, is := modelPrint(i)
	got, e := asm.Print(i)
	if !is {
		if got != "" || e != api.ErrForm {
			t.Errorf("Print(%v): %q %v, want ErrForm", i, got, e)
		}
		return
	}
	if got != want || e != api.OK {
		t.Errorf("Print(%v): %q %v, want %q", i, got, e, want)
	}
	if back, e := asm.Parse(want); back != i || e != api.OK {
		t.Errorf("Parse(%q): %v %v, want %v", want, back, e, i)
	}
}

// checkParse holds Parse against the model.
func checkParse(t *testing.T, s string) {
	t.Helper()
	want, is := modelParse(s)
	got, e := asm.Parse(s)
	if got != want || is != (e == api.OK) || !is && e != api.ErrForm {
		t.Errorf("Parse(%q): %v %v, want %v %v", s, got, e, want, is)
	}
}
