package decode

// The forms of B1. What is no instruction has none.
const (
	formNone = iota
	formU
	formJ
	formI
	formH
	formB
	formS
	formR
	formA
	formE
)

// Where registers begin in a word.
const (
	placeRd  = 7
	placeRs1 = 15
	placeRs2 = 20
)

// Which bits of a word tell its instruction.
const (
	toldLow   = 1<<7 - 1
	toldMid   = toldLow | 7<<12
	toldAtom  = toldMid | 31<<27
	toldUpper = toldMid | 127<<25
	toldWhole = 1<<32 - 1
)

// piece is count bits of Imm: they begin at the bit word of the word, and at the bit imm of Imm.
type piece struct{ word, imm, count int }

// shape is what a form has: the bits that tell its instructions, its registers, and the pieces of Imm. Of an Imm that is signed, spare is how many bits are above its sign.
type shape struct {
	told         uint32
	rd, rs1, rs2 bool
	imm          [4]piece
	spare        int
}

var shapes = [...]shape{
	formU: {told: toldLow, rd: true, imm: [4]piece{{12, 12, 20}}},
	formJ: {told: toldLow, rd: true, imm: [4]piece{{31, 20, 1}, {12, 12, 8}, {20, 11, 1}, {21, 1, 10}}, spare: 32 - 21},
	formI: {told: toldMid, rd: true, rs1: true, imm: [4]piece{{20, 0, 12}}, spare: 32 - 12},
	formH: {told: toldUpper, rd: true, rs1: true, imm: [4]piece{{20, 0, 5}}},
	formB: {told: toldMid, rs1: true, rs2: true, imm: [4]piece{{31, 12, 1}, {7, 11, 1}, {25, 5, 6}, {8, 1, 4}}, spare: 32 - 13},
	formS: {told: toldMid, rs1: true, rs2: true, imm: [4]piece{{25, 5, 7}, {7, 0, 5}}, spare: 32 - 12},
	formR: {told: toldUpper, rd: true, rs1: true, rs2: true},
	formA: {told: toldAtom, rd: true, rs1: true, rs2: true, imm: [4]piece{{25, 0, 2}}},
	formE: {told: toldWhole},
}
