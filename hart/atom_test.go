package hart_test

import (
	"strconv"
	"testing"

	"ferrybridge/api"
	"ferrybridge/hart"
)

// checkAtom does an atomic instruction with each register as Rd and each Imm: Rd becomes w, all else is as want and wantM say.
func checkAtom(t *testing.T, name string, op int, h api.Hart, m []byte, w uint32, want api.Hart, wantM func(m []byte) []byte) {
	t.Helper()
	for _, rd := range []int{7, 5, 6, 31, 0} {
		for imm := range int32(4) {
			want := want
			want.PC = place + 4
			if rd != 0 {
				want.Regs[rd] = w
			}
			m := lay(m, place, encoded(t, instruction(op, rd, imm)))
			check(t, name+", Rd "+strconv.Itoa(rd), h, m, want, wantM(m))
		}
	}
}

func same(m []byte) []byte { return m }

// with lays one word at at.
func with(at int, w uint32) func(m []byte) []byte {
	return func(m []byte) []byte { return lay(m, at, w) }
}

// TestAmo: D2: AMOSWAP to AMOMAXU, of two pairs that tell each from each other; a reservation of the hart's own stays.
func TestAmo(t *testing.T) {
	for op, want := range map[int][2]uint32{
		api.AMOSWAP: {3, 0xfffffffe}, api.AMOADD: {0x80000008, 5}, api.AMOXOR: {0x80000006, 0xfffffff9},
		api.AMOAND: {1, 6}, api.AMOOR: {0x80000007, ones},
		api.AMOMIN: {0x80000005, 0xfffffffe}, api.AMOMAX: {3, 7}, api.AMOMINU: {3, 7}, api.AMOMAXU: {0x80000005, 0xfffffffe},
	} {
		name := "op " + strconv.Itoa(op)
		for _, h := range []api.Hart{runner(36, 3), held(runner(36, 3), 36), held(runner(36, 3), 40)} {
			checkAtom(t, name, op, h, data(), 0x80000005, h, with(36, want[0]))
		}
		h := runner(length-4, 0xfffffffe)
		checkAtom(t, name+" at the end", op, h, lay(data(), length-4, 7), 7, h, with(length-4, want[1]))
		h = runner(0, 0xfffffffe)
		checkAtom(t, name+" at 0", op, h, lay(data(), 0, 7), 7, h, with(0, want[1]))
	}
}

// TestReserve: D2: LRW makes a reservation, also where there is another one, and at 0 and the end.
func TestReserve(t *testing.T) {
	for at, w := range map[uint32]uint32{32: 0x84739281, 36: 0x80000005, length - 4: 0x7a6b9c8d, 0: 0} {
		for _, h := range []api.Hart{runner(at, 2), held(runner(at, 2), 32), held(runner(at, 2), 0), held(runner(at, 2), ones)} {
			checkAtom(t, "LRW at "+strconv.Itoa(int(at)), api.LRW, h, data(), w, held(h, at), same)
		}
	}
}

// TestConditional: D2: SCW stores, if the hart is held at just this place; else not; it is held no more in both cases.
func TestConditional(t *testing.T) {
	for _, at := range []uint32{0, 32, length - 4} {
		h := runner(at, 0xa1b2c3d4)
		checkAtom(t, "SCW, met", api.SCW, held(h, at), data(), 0, h, with(int(at), 0xa1b2c3d4))
		checkAtom(t, "SCW, none", api.SCW, h, data(), 1, h, same)
		for _, other := range []uint32{at + 4, at + 1, at ^ 1<<31, at - 4, ones} {
			checkAtom(t, "SCW, held elsewhere", api.SCW, held(h, other), data(), 1, h, same)
		}
	}
}

// walk does instructions one after the other, the last of them ahead of the data at 32, and answers the hart and the memory behind them; x5 is 32, x6 is 36, x8 is 77.
func walk(t *testing.T, program ...api.Ins) (api.Hart, []byte) {
	t.Helper()
	begin := 32 - 4*len(program)
	m := data()
	for k, i := range program {
		m = lay(m, begin+4*k, encoded(t, i))
	}
	h := runner(32, 36)
	h.PC, h.Regs[8] = uint32(begin), 77
	for range program {
		var ok bool
		if h, m, _, ok = hart.Step(h, m); !ok {
			t.Fatalf("no step: %v", h)
		}
	}
	return h, m
}

// TestReservations: D2: a reservation that is made, kept by what the hart does between, met, and lost by SCW or by another LRW.
func TestReservations(t *testing.T) {
	reserve := api.Ins{Op: api.LRW, Rd: 9, Rs1: 5}
	reserveOther := api.Ins{Op: api.LRW, Rd: 9, Rs1: 6}
	conditional := func(rd, at int) api.Ins { return api.Ins{Op: api.SCW, Rd: rd, Rs1: at, Rs2: 8} }
	const untried = 0xdead0000
	for _, c := range []struct {
		name     string
		program  []api.Ins
		x10, x11 uint32
		held     bool
		heldAt   uint32
		at32     uint32
	}{
		{"made", []api.Ins{reserve}, untried + 10, untried + 11, true, 32, 0x84739281},
		{"made twice", []api.Ins{reserve, reserve}, untried + 10, untried + 11, true, 32, 0x84739281},
		{"met", []api.Ins{reserve, conditional(10, 5)}, 0, untried + 11, false, 0, 77},
		{"met once", []api.Ins{reserve, conditional(10, 5), conditional(11, 5)}, 0, 1, false, 0, 77},
		{"never made", []api.Ins{conditional(10, 5)}, 1, untried + 11, false, 0, 0x84739281},
		{"lost by SCW elsewhere", []api.Ins{reserve, conditional(10, 6), conditional(11, 5)}, 1, 1, false, 0, 0x84739281},
		{"lost by LRW elsewhere", []api.Ins{reserve, reserveOther, conditional(10, 5)}, 1, untried + 11, false, 0, 0x84739281},
		{"kept by ADDI", []api.Ins{reserve, {Op: api.ADDI, Rd: 8, Rs1: 8, Imm: 1}, conditional(10, 5)}, 0, untried + 11, false, 0, 78},
		{"kept by its own SW there", []api.Ins{reserve, {Op: api.SW, Rs1: 5, Rs2: 6}, conditional(10, 5)}, 0, untried + 11, false, 0, 77},
		{"kept by its own SB there", []api.Ins{reserve, {Op: api.SB, Rs1: 5, Rs2: 6, Imm: 3}, {Op: api.FENCE}}, untried + 10, untried + 11, true, 32, 0x24739281},
		{"kept by its own AMOADD there", []api.Ins{reserve, {Op: api.AMOADD, Rs1: 5, Rs2: 8}, conditional(10, 5)}, 0, untried + 11, false, 0, 77},
		{"kept by LW and a jump", []api.Ins{reserve, {Op: api.LW, Rd: 12, Rs1: 6}, {Op: api.JAL, Imm: 4}, conditional(10, 5)}, 0, untried + 11, false, 0, 77},
	} {
		h, m := walk(t, c.program...)
		at32 := uint32(m[32]) | uint32(m[33])<<8 | uint32(m[34])<<16 | uint32(m[35])<<24
		if h.State != api.Runs || h.PC != 32 {
			t.Errorf("%s: %v", c.name, h)
		}
		if h.Regs[10] != c.x10 || h.Regs[11] != c.x11 || at32 != c.at32 {
			t.Errorf("%s: x10 %d, x11 %d, at 32 %#x", c.name, h.Regs[10], h.Regs[11], at32)
		}
		if h.Held != c.held || h.HeldAt != c.heldAt {
			t.Errorf("%s: Held %v at %d", c.name, h.Held, h.HeldAt)
		}
	}
}
