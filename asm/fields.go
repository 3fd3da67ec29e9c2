package asm

import (
	"strconv"
	"strings"

	"ferrybridge/api"
)

// The fields, as a shape names them.
const (
	fieldRd    = 'd'
	fieldRs1   = 's'
	fieldRs2   = 't'
	fieldImm   = 'i'
	fieldUpper = 'u' // Imm, told in parts of 4096
)

// upperBits are those of Imm that fieldUpper leaves out: 4096 is 2^12.
const upperBits = 12

// shape is what follows the name of an op: its fields, and the bytes that stand between them.
func shape(op int) string {
	switch {
	case within(op, api.LUI, api.AUIPC):
		return "d,u"
	case op == api.JAL:
		return "d,i"
	case op == api.JALR, within(op, api.ADDI, api.SRAI), op == api.FENCE:
		return "d,s,i"
	case within(op, api.BEQ, api.BGEU):
		return "s,t,i"
	case within(op, api.LB, api.LHU):
		return "d,i(s)"
	case within(op, api.SB, api.SW):
		return "t,i(s)"
	case within(op, api.ADD, api.REMU):
		return "d,s,t"
	case op == api.LRW:
		return "d,(s)"
	case within(op, api.SCW, api.AMOMAXU):
		return "d,t,(s)"
	}
	return ""
}

// written is what follows the name of an instruction.
func written(i api.Ins) string {
	var more strings.Builder
	for _, c := range shape(i.Op) {
		more.WriteString(told(i, c))
	}
	return more.String()
}

// told is a field of i as text; what stands between fields is told as it is.
func told(i api.Ins, field rune) string {
	switch field {
	case fieldRd:
		return register(i.Rd)
	case fieldRs1:
		return register(i.Rs1)
	case fieldRs2:
		return register(i.Rs2)
	case fieldImm:
		return strconv.Itoa(int(i.Imm))
	case fieldUpper:
		return strconv.Itoa(int(i.Imm >> upperBits))
	}
	return string(field)
}

func register(n int) string { return "x" + strconv.Itoa(n) }

// read is i with the fields that its shape has, taken out of more one by one.
func read(i api.Ins, more string) api.Ins {
	between := func(c rune) bool { return c == ',' || c == '(' || c == ')' }
	for _, c := range shape(i.Op) {
		if between(c) {
			continue
		}
		var part string
		part, more = cut(strings.TrimLeftFunc(more, between), between)
		i = set(i, c, number(part))
	}
	return i
}

// cut is s up to the first that is asked for, and the rest from there on.
func cut(s string, asked func(rune) bool) (string, string) {
	if at := strings.IndexFunc(s, asked); at >= 0 {
		return s[:at], s[at:]
	}
	return s, ""
}

// number is a number or a register's one. Of a part that is neither it is some other number: Parse tells that by its text.
func number(part string) int32 {
	n, _ := strconv.ParseInt(strings.TrimPrefix(part, "x"), 10, 32)
	return int32(n)
}

// set is i with n in a field.
func set(i api.Ins, field rune, n int32) api.Ins {
	switch field {
	case fieldRd:
		i.Rd = int(n)
	case fieldRs1:
		i.Rs1 = int(n)
	case fieldRs2:
		i.Rs2 = int(n)
	case fieldImm:
		i.Imm = n
	case fieldUpper:
		i.Imm = n << upperBits
	}
	return i
}
