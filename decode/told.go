package decode

import "ferrybridge/api"

// The numbers at 0..6, by which rows of instructions are told.
const (
	lowLoad   = 3
	lowFence  = 15
	lowNumber = 19
	lowAuipc  = 23
	lowStore  = 35
	lowAtom   = 47
	lowAlu    = 51
	lowLui    = 55
	lowBranch = 99
	lowJalr   = 103
	lowJal    = 111
	lowSystem = 115
)

// The words of the instructions that are told by all of it.
const (
	wordEcall  = 115
	wordEbreak = 1048691
)

// uppers are the numbers at 25..31, of the instructions whose number is not 0 there. Atomic ones are told by 27..31 alone, so that theirs stand two bits higher.
var uppers = [api.EBREAK + 1]uint32{
	api.SRAI: 32, api.SUB: 32, api.SRA: 32,
	api.MUL: 1, api.MULH: 1, api.MULHSU: 1, api.MULHU: 1,
	api.DIV: 1, api.DIVU: 1, api.REM: 1, api.REMU: 1,
	api.LRW: 2 << 2, api.SCW: 3 << 2, api.AMOSWAP: 1 << 2, api.AMOADD: 0 << 2,
	api.AMOXOR: 4 << 2, api.AMOAND: 12 << 2, api.AMOOR: 8 << 2,
	api.AMOMIN: 16 << 2, api.AMOMAX: 20 << 2, api.AMOMINU: 24 << 2, api.AMOMAXU: 28 << 2,
}

// span is the first and the last of the ops that the low bits of a word leave; of a word that is none the last one is below the first.
func span(w uint32) (int, int) {
	switch w & toldLow {
	case lowLui:
		return api.LUI, api.LUI
	case lowAuipc:
		return api.AUIPC, api.AUIPC
	case lowJal:
		return api.JAL, api.JAL
	case lowJalr:
		return api.JALR, api.JALR
	case lowBranch:
		return api.BEQ, api.BGEU
	case lowLoad:
		return api.LB, api.LHU
	case lowStore:
		return api.SB, api.SW
	case lowNumber:
		return api.ADDI, api.SRAI
	case lowAlu:
		return api.ADD, api.REMU
	case lowAtom:
		return api.LRW, api.AMOMAXU
	case lowFence:
		return api.FENCE, api.FENCE
	case lowSystem:
		return api.ECALL, api.EBREAK
	}
	return 0, -1
}

// told is the form of an op, and the bits that tell it, at their places; formNone of an op that is none.
func told(op int) (int, uint32) {
	switch {
	case op == api.LUI:
		return formU, lowLui
	case op == api.AUIPC:
		return formU, lowAuipc
	case op == api.JAL:
		return formJ, lowJal
	case op == api.JALR:
		return formI, row(op, api.JALR, lowJalr, 0)
	case within(op, api.BEQ, api.BGEU):
		return formB, row(op, api.BEQ, lowBranch, 0, 1, 4, 5, 6, 7)
	case within(op, api.LB, api.LHU):
		return formI, row(op, api.LB, lowLoad, 0, 1, 2, 4, 5)
	case within(op, api.SB, api.SW):
		return formS, row(op, api.SB, lowStore, 0, 1, 2)
	case within(op, api.ADDI, api.ANDI):
		return formI, row(op, api.ADDI, lowNumber, 0, 2, 3, 4, 6, 7)
	case within(op, api.SLLI, api.SRAI):
		return formH, row(op, api.SLLI, lowNumber, 1, 5, 5)
	case within(op, api.ADD, api.AND):
		return formR, row(op, api.ADD, lowAlu, 0, 0, 1, 2, 3, 4, 5, 5, 6, 7)
	case within(op, api.MUL, api.REMU):
		return formR, row(op, api.MUL, lowAlu, 0, 1, 2, 3, 4, 5, 6, 7)
	case within(op, api.LRW, api.AMOMAXU):
		return formA, row(op, op, lowAtom, 2)
	case op == api.FENCE:
		return formI, row(op, api.FENCE, lowFence, 0)
	case op == api.ECALL:
		return formE, wordEcall
	case op == api.EBREAK:
		return formE, wordEbreak
	}
	return formNone, 0
}

// row is the bits that tell op, in a row of ops that follow first: mids are their numbers at 12..14.
func row(op, first int, low uint32, mids ...uint32) uint32 {
	return low | mids[op-first]<<12 | uppers[op]<<25
}

func within(op, first, last int) bool { return first <= op && op <= last }
