package hart_test

import (
	"bytes"
	"strconv"
	"testing"

	"ferrybridge/api"
	"ferrybridge/hart"
)

// checkTrap: all but State and Cause is as it was, of a hart that is held, at a or elsewhere, and of one that is not.
func checkTrap(t *testing.T, name string, h api.Hart, m []byte, cause int) {
	t.Helper()
	for _, h := range []api.Hart{h, held(h, h.Regs[5]), held(h, 0), held(h, ones)} {
		check(t, name, h, m, trapped(h, cause), m)
	}
}

// TestFetchTraps: D2: no word at PC: it is no multiple of 4, or not all there.
func TestFetchTraps(t *testing.T) {
	for _, pc := range []uint32{1, 2, 3, 17, 18, length - 3, length - 1, length, length + 1, length + 4, api.MaxMemory, 1 << 31, 0xfffffffc, ones} {
		h := runner(1, 2)
		h.PC = pc
		checkTrap(t, "PC "+strconv.Itoa(int(pc)), h, data(), api.CauseFetch)
	}
	for size := range 4 {
		checkTrap(t, strconv.Itoa(size)+" bytes", api.Hart{}, []byte{19, 0, 0, 0}[:size], api.CauseFetch)
		h := runner(1, 2)
		checkTrap(t, strconv.Itoa(size)+" bytes of the last word", h, data()[:place+size], api.CauseFetch)
	}
	checkTrap(t, "no memory", api.Hart{}, nil, api.CauseFetch)
}

// TestWordTraps: D2: words that are no instructions, among them such as differ from one in one bit.
func TestWordTraps(t *testing.T) {
	for _, w := range []uint32{
		0, 1, 18, 0x7f, ones, 0x1067, 0x2063, 0x3003, 0x3023, 0x40001013, 0x4000033, 0x40001033,
		0x102f, 0x602f, 0x1010202f, 0x100f, 0xf3, 0x200073, 0x80000073,
	} {
		checkTrap(t, "word "+strconv.FormatUint(uint64(w), 16), runner(1, 2), lay(data(), place, w), api.CauseWord)
	}
}

// nowhere are places at which size bytes are not all there, or which are no multiples of it; below 0 ones too.
func nowhere(size uint32) []uint32 {
	all := []uint32{length, length + size, 1<<31 + 32, -size, api.MaxMemory, 1 << 16}
	if size > 1 {
		all = append(all, 1, 33, 35, length-1, ones, ones-2)
	}
	if size > 2 {
		all = append(all, 2, 34, length-2, ones-1)
	}
	return all
}

// checkNowhere does op at each place that is nowhere, told by Rs1 alone, and, if it has an Imm to add, by both.
func checkNowhere(t *testing.T, op int, size uint32, cause int, imms ...int32) {
	t.Helper()
	for _, at := range nowhere(size) {
		for _, imm := range imms {
			for _, rd := range []int{7, 5, 0} {
				h := runner(at-uint32(imm), 99)
				m := lay(data(), place, encoded(t, instruction(op, rd, imm)))
				checkTrap(t, "op "+strconv.Itoa(op)+" at "+strconv.Itoa(int(at)), h, m, cause)
			}
		}
	}
}

// TestLoadTraps: D2: loads of what is not there, also into register 0.
func TestLoadTraps(t *testing.T) {
	for op, size := range map[int]uint32{api.LB: 1, api.LBU: 1, api.LH: 2, api.LHU: 2, api.LW: 4} {
		checkNowhere(t, op, size, api.CauseLoad, 0, 4, -2048, 2047)
	}
}

// TestStoreTraps: D2: stores where nothing is.
func TestStoreTraps(t *testing.T) {
	for op, size := range map[int]uint32{api.SB: 1, api.SH: 2, api.SW: 4} {
		checkNowhere(t, op, size, api.CauseStore, 0, 4, -2048, 2047)
	}
}

// TestAtomTraps: D2: LRW traps as a load, all others as stores, SCW also if the hart is held at that place or nowhere.
func TestAtomTraps(t *testing.T) {
	for _, at := range nowhere(4) {
		for op := api.LRW; op <= api.AMOMAXU; op++ {
			cause := api.CauseStore
			if op == api.LRW {
				cause = api.CauseLoad
			}
			for imm := range int32(4) {
				m := lay(data(), place, encoded(t, instruction(op, 7, imm)))
				checkTrap(t, "op "+strconv.Itoa(op)+" at "+strconv.Itoa(int(at)), runner(at, 99), m, cause)
			}
		}
	}
}

// TestCallTraps: D2: calls of other numbers, and EBREAK whatever x17 is.
func TestCallTraps(t *testing.T) {
	for _, n := range []uint32{0, 1, 2, 3, 10, 93, 256, 257, 1 << 16, 1<<16 + 1, 1 << 31, 1<<31 + 1, ones} {
		h := runner(1, 2)
		h.Regs[17] = n
		checkTrap(t, "EBREAK", h, lay(data(), place, 1048691), api.CauseBreak)
		if n > 1 {
			checkTrap(t, "call of "+strconv.Itoa(int(n)), h, lay(data(), place, 115), api.CauseCall)
		}
	}
}

// TestNoMoreSteps: D1 and D2: behind a trap or a halt there is no step.
func TestNoMoreSteps(t *testing.T) {
	for _, w := range []uint32{0, 115, 1048691} {
		h := runner(1, 2)
		h.Regs[17] = 0
		m := lay(data(), place, w)
		got, gotM, _, ok := hart.Step(h, m)
		if !ok || got.State == api.Runs || !bytes.Equal(gotM, m) {
			t.Errorf("word %d: %v, %v", w, got, ok)
		}
		checkRefused(t, "behind the end", got, gotM)
	}
}

// TestFetch: D2: the instruction at a place, and 0; where there is none, an empty one and the cause.
func TestFetch(t *testing.T) {
	m := append(lay(make([]byte, 16), 4, 0xfff00093, 115), 19, 0, 0)
	for pc, want := range map[uint32]api.Ins{4: {Op: api.ADDI, Rd: 1, Imm: -1}, 8: {Op: api.ECALL}} {
		if i, cause := hart.Fetch(m, pc); i != want || cause != 0 {
			t.Errorf("at %d: %v, %d", pc, i, cause)
		}
	}
	for pc, want := range map[uint32]int{0: api.CauseWord, 12: api.CauseWord, 5: api.CauseFetch, 6: api.CauseFetch, 16: api.CauseFetch, 20: api.CauseFetch, ones: api.CauseFetch, ones - 3: api.CauseFetch} {
		if i, cause := hart.Fetch(m, pc); i != (api.Ins{}) || cause != want {
			t.Errorf("at %d: %v, %d", pc, i, cause)
		}
	}
}
