package asm_test

import (
	"strconv"
	"strings"
	"testing"

	"ferrybridge/api"
	"ferrybridge/asm"
)

func TestTextsThatAreNone(t *testing.T) {
	for _, s := range []string{
		"", " ", ",", "x", "x1", "0", "\x00", "\xff",
		"w", ".w", "lr", "sc", "amoadd", "amoadd x0,x1,(x2)", "lrw x1,(x2)", "lr.w.", "lr.w. x1,(x2)", "lr.w.qa x1,(x2)",
		"lr.w.rlaq x1,(x2)", "lr.w.aq.rl x1,(x2)", "lr.w.aqrl.w x1,(x2)", "add.w x1,x2,x3", "ecall.aq", "amoadd.aq x0,x1,(x2)", "amoadd.w.aqq x0,x1,(x2)",
		"lr.w x1,x0,(x2)", "lr.w x1,0(x2)", "lr.w x1,x2", "lr.w x1(x2)", "sc.w x1,(x2)", "sc.w x1,x3,0(x2)", "sc.w x1,x3,x2", "amoadd.w x0,x1,2(x2)", "amoadd.w x0,x1(x2)",
		"ECALL", "Ecall", "ADD x1,x2,x3", "add X1,x2,x3", "LR.W x1,(x2)", "lr.w.AQ x1,(x2)",
		"ecall ", " ecall", "ecall x0", "ecall 0", "ecall ,", "ecall\n", "ecall\x00", "ecallebreak", "ecall ebreak", "ecal", "ebreak ",
		"addi", "addi ", "addi x1", "addi x1,", "addi x1,x2", "addi x1,x2,", "addi x1,x2,3,", "addi x1,x2,3 ", "addi x1,x2,3,4", "addi x1,x2,x3", "addi x1,2,3", "addi 1,x2,3",
		"addi x1, x2,3", "addi x1 ,x2,3", "addi  x1,x2,3", " addi x1,x2,3", "addi\tx1,x2,3", "addix1,x2,3", "addi,x1,x2,3", "addi x1,x2, 3", "addi x1,x2,- 3", "addi x 1,x2,3",
		"addi x1,x2,3\n", "addi x1,x2,3\x00", "addi x1,,x2,3", "addi x1x2,3", "addi (x1),x2,3", "addi x1,x2,(3)", "addi x1,3(x2)", "addi x1,x2(3)", "addi x1(x2)3", "addi x1;x2;3",
		"addi x01,x2,3", "addi x1,x02,3", "addi x1,x2,03", "addi x1,x2,00", "addi x1,x2,-0", "addi x1,x2,-03", "addi x1,x2,+3", "addi x1,x2,--3", "addi x1,x2,-", "addi x1,x2,3-",
		"addi x1,x2,0x3", "addi x1,x2,3_0", "addi x1,x2,1e1", "addi x1,x2,3.0", "addi x1,x2,٣", "addi x1,x2,３", "addi x1,x2,a", "addi x00,x2,3", "addi x-0,x2,3", "addi x+1,x2,3", "addi xx1,x2,3",
		"addi x1,x2,2048", "addi x1,x2,-2049", "addi x1,x2,4294967295", "addi x1,x2,4294967296", "addi x1,x2,4294967299", "addi x1,x2,18446744073709551619", "addi x1,x2,2147483648", "addi x1,x2,-2147483649",
		"addi x32,x2,3", "addi x1,x32,3", "addi x-1,x2,3", "add x1,x2,x32", "addi x4294967297,x2,3", "addi x18446744073709551617,x2,3", "addi x,x2,3", "addi x100,x2,3",
		"addi zero,x2,3", "addi ra,sp,3", "nop", "li x1,3", "mv x1,x2", "fence", "fence x0,x0", "fence x0,x0,2048", "ret", "j 8", "addi x1,x2,3 # more",
		"add x1,x2,3", "add x1,x2", "add x1,x2,x3,x4", "slli x1,x2,32", "slli x1,x2,-1", "srai x1,x2,1024", "srai x1,x2,1040",
		"lui x1,524288", "lui x1,-524289", "lui x1,1048575", "lui x1,1048576", "lui x1,4294967296", "lui x1,-0", "lui x1,x2,3", "auipc x1", "auipc x1,4503599627370496", "lui x1,-1048576",
		"jal x1,1", "jal x1,-3", "jal x1,1048576", "jal x1,1048575", "jal x1,-1048577", "jal x1,-1048578", "jal 8", "jal x1,x2,8",
		"beq x1,x2,1", "beq x1,x2,4096", "beq x1,x2,-4098", "beq x1,x2,4095", "beq x1,x2",
		"lw x5,-4", "lw x5,(x2)", "lw x5,-4(x2", "lw x5,-4x2)", "lw x5,-4[x2]", "lw x5,-4(x2))", "lw x5,-4((x2))", "lw x5,-4()", "lw x5,-4,(x2)", "lw x5,x2,-4", "lw x5, -4(x2)", "lw x5,-4 (x2)", "lw x5,-4( x2)", "lw x5,-4(x2) ", "lw x5,-4(2)",
		"lw x5,2048(x2)", "lw x5,-2049(x2)", "lw x5,-4(x32)", "lw x5)-4(x2(", "sw x5,(x2)", "sw x5,2048(x2)", "sw x5,-0(x2)", "sw x5,00(x2)",
	} {
		if i, e := asm.Parse(s); i != (api.Ins{}) || e != api.ErrForm {
			t.Errorf("Parse(%q): %v %v", s, i, e)
		}
		if i, is := modelParse(s); is {
			t.Errorf("the model reads %q as %v", s, i)
		}
	}
}

// odd are bytes, and more, that do not belong where they are laid, but for a few places.
var odd = []string{" ", ",", "(", ")", "x", "X", "0", "1", "2", "9", "-", "+", ".", "w", "u", "i", "A", "_", "\t", "\n", "\x00", "\x80", "\xff", "é", "x0", ",0", "  ", "-0", "00", ".rl", ".aq"}

// TestTextsThatAreNearlyOne lays something odd at each place of each name's texts, takes each byte away, puts each two the other way round, and holds what becomes of it against the model.
func TestTextsThatAreNearlyOne(t *testing.T) {
	for _, r := range tableRows {
		for _, i := range []api.Ins{r.ins(0, 0, 0, r.low), r.ins(31, 10, 9, r.high)} {
			checkAround(t, r.text(i))
		}
		if t.Failed() {
			return
		}
	}
}

func checkAround(t *testing.T, s string) {
	checkParse(t, s)
	for at := range len(s) + 1 {
		for _, o := range odd {
			checkParse(t, s[:at]+o+s[at:])
		}
		checkParse(t, s[:at])
		checkParse(t, s[at:])
		if at == len(s) {
			break
		}
		for _, o := range odd {
			checkParse(t, s[:at]+o+s[at+1:])
		}
		checkParse(t, s[:at]+s[at+1:])
		checkParse(t, s[:at]+strings.ToUpper(s[at:at+1])+s[at+1:])
		if at+1 < len(s) {
			checkParse(t, s[:at]+s[at+1:at+2]+s[at:at+1]+s[at+2:])
		}
	}
	checkParse(t, s+s)
	checkParse(t, s+" "+s)
	checkParse(t, strings.ToUpper(s))
}

// TestNamesWithOtherFields holds each name, with what follows each other one, against the model.
func TestNamesWithOtherFields(t *testing.T) {
	for _, r := range tableRows {
		for _, other := range tableRows {
			_, follows, _ := strings.Cut(other.text(other.ins(1, 2, 3, other.high)), " ")
			checkParse(t, r.name+" "+follows)
			checkParse(t, r.name)
		}
	}
}

// TestNumbersAroundBounds holds numbers at and beyond both ends of each name's Imm against the model, told as they are and with what they lose beyond 12, 32 and 64 bits.
func TestNumbersAroundBounds(t *testing.T) {
	more := []string{"99999999999999999999", "-99999999999999999999", "18446744073709551616", "9223372036854775808", "-9223372036854775809", "4294967296", "-4294967296", "1048576", "4503599627370496"}
	for _, r := range tableRows {
		if !r.has("Imm") && !r.has("Upper") {
			continue
		}
		for _, n := range append(around(r), more...) {
			fields := strings.NewReplacer("Rd", "x1", "Rs1", "x2", "Rs2", "x3", "Imm", n, "Upper", n)
			checkParse(t, r.name+" "+fields.Replace(r.follows))
		}
	}
}

// around are numbers near the ends of what the row's text may tell, and near 0.
func around(r tableRow) []string {
	low, high := r.low, r.high
	if r.has("Upper") {
		low, high = low/4096, high/4096
	}
	var all []string
	for _, end := range []int{low, high, 0, low - 4096, high + 4096, 2*low - 1, 2*high + 2, low * 4096, high * 4096, low - 1<<32, high + 1<<32} {
		for d := -5; d <= 5; d++ {
			all = append(all, strconv.Itoa(end+d))
		}
	}
	return all
}

func TestRegistersAroundBounds(t *testing.T) {
	for _, r := range tableRows {
		for _, n := range []string{"", "-1", "0", "00", "-0", "+0", "01", "31", "031", "32", "64", "99", "100", "256", "4294967296", "4294967327", "18446744073709551616", "99999999999999999999", "x1", "sp"} {
			for _, field := range []string{"Rd", "Rs1", "Rs2"} {
				fields := strings.NewReplacer(field, "x"+n, "Rd", "x1", "Rs1", "x2", "Rs2", "x3", "Imm", "0", "Upper", "0")
				checkParse(t, strings.TrimSuffix(r.name+" "+fields.Replace(r.follows), " "))
			}
		}
	}
}

func TestLongTexts(t *testing.T) {
	const many = 1 << 20
	for _, s := range []string{" ", ",", "(", "x", "0", "9", "-", "a", "addi ", "addi x1,x2,3", "x1,", "lr.w.aq", "\xff"} {
		long := strings.Repeat(s, many/len(s))
		for _, ahead := range []string{"", "addi ", "addi x1,x2,", "addi x", "lw x5,-4(", "ecall", "lr.w.aq", "lui x1,1"} {
			if i, e := asm.Parse(ahead + long); i != (api.Ins{}) || e != api.ErrForm {
				t.Errorf("Parse(%q and many %q): %v %v", ahead, s, i, e)
			}
		}
	}
	if i, e := asm.Parse("addi x1,x2,3" + strings.Repeat(" ", many)); i != (api.Ins{}) || e != api.ErrForm {
		t.Errorf("with blanks behind it: %v %v", i, e)
	}
}
