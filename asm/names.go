package asm

import "ferrybridge/api"

// names are what each op is called, of atomic ones without what all of them have behind it.
var names = [...]string{
	api.LUI: "lui", api.AUIPC: "auipc", api.JAL: "jal", api.JALR: "jalr",
	api.BEQ: "beq", api.BNE: "bne", api.BLT: "blt", api.BGE: "bge", api.BLTU: "bltu", api.BGEU: "bgeu",
	api.LB: "lb", api.LH: "lh", api.LW: "lw", api.LBU: "lbu", api.LHU: "lhu",
	api.SB: "sb", api.SH: "sh", api.SW: "sw",
	api.ADDI: "addi", api.SLTI: "slti", api.SLTIU: "sltiu", api.XORI: "xori", api.ORI: "ori", api.ANDI: "andi",
	api.SLLI: "slli", api.SRLI: "srli", api.SRAI: "srai",
	api.ADD: "add", api.SUB: "sub", api.SLL: "sll", api.SLT: "slt", api.SLTU: "sltu",
	api.XOR: "xor", api.SRL: "srl", api.SRA: "sra", api.OR: "or", api.AND: "and",
	api.MUL: "mul", api.MULH: "mulh", api.MULHSU: "mulhsu", api.MULHU: "mulhu",
	api.DIV: "div", api.DIVU: "divu", api.REM: "rem", api.REMU: "remu",
	api.LRW: "lr", api.SCW: "sc", api.AMOSWAP: "amoswap", api.AMOADD: "amoadd",
	api.AMOXOR: "amoxor", api.AMOAND: "amoand", api.AMOOR: "amoor",
	api.AMOMIN: "amomin", api.AMOMAX: "amomax", api.AMOMINU: "amominu", api.AMOMAXU: "amomaxu",
	api.FENCE: "fence", api.ECALL: "ecall", api.EBREAK: "ebreak",
}

// added is what stands behind the name of an atomic instruction for its Imm.
var added = [...]string{"", ".rl", ".aq", ".aqrl"}

// name is the name of an instruction that Decode may answer.
func name(i api.Ins) string {
	if atomic(i.Op) {
		return names[i.Op] + ".w" + added[i.Imm]
	}
	return names[i.Op]
}

// named has the Op of that name, and the Imm that the name tells; it is empty, if there is no such name.
func named(head string) api.Ins {
	for op := api.LUI; op <= api.EBREAK; op++ {
		for imm := range spellings(op) {
			if i := (api.Ins{Op: op, Imm: int32(imm)}); name(i) == head {
				return i
			}
		}
	}
	return api.Ins{}
}

// spellings is how many names there are of an op.
func spellings(op int) int {
	if atomic(op) {
		return len(added)
	}
	return 1
}

func atomic(op int) bool { return within(op, api.LRW, api.AMOMAXU) }

func within(op, first, last int) bool { return first <= op && op <= last }
