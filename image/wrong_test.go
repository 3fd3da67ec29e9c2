package image_test

import (
	"encoding/binary"
	"math"
	"slices"
	"strconv"
	"testing"

	"ferrybridge/api"
)

// wrongHarts are harts that may not be (D1), some of each kind; those with numbers that four bytes can't tell among them.
func wrongHarts() map[string]api.Hart {
	all := map[string]api.Hart{}
	for name, change := range map[string]func(h *api.Hart){
		"register 0":                   func(h *api.Hart) { h.Regs[0] = 1 },
		"register 0, its highest bit":  func(h *api.Hart) { h.Regs[0] = 1 << 31 },
		"HeldAt, but not Held":         func(h *api.Hart) { h.HeldAt = 1 },
		"a great HeldAt, but not Held": func(h *api.Hart) { h.HeldAt = ones },
		"a state below":                func(h *api.Hart) { h.State = api.Runs - 1 },
		"a state above":                func(h *api.Hart) { h.State = api.Trapped + 1 },
		"a state above, with a cause":  func(h *api.Hart) { h.State, h.Cause = api.Trapped+1, api.CauseLoad },
		"runs with a cause":            func(h *api.Hart) { h.Cause = api.CauseFetch },
		"runs with the last cause":     func(h *api.Hart) { h.Cause = api.CauseBreak },
		"halted with a cause":          func(h *api.Hart) { h.State, h.Cause = api.Halted, api.CauseCall },
		"trapped, no cause":            func(h *api.Hart) { h.State = api.Trapped },
		"trapped, a cause below":       func(h *api.Hart) { h.State, h.Cause = api.Trapped, -1 },
		"trapped, a cause above":       func(h *api.Hart) { h.State, h.Cause = api.Trapped, api.CauseBreak+1 },
		"the greatest state":           func(h *api.Hart) { h.State = math.MaxInt },
		"the least state":              func(h *api.Hart) { h.State = math.MinInt },
		"the greatest cause":           func(h *api.Hart) { h.State, h.Cause = api.Trapped, math.MaxInt },
		"the least cause":              func(h *api.Hart) { h.State, h.Cause = api.Trapped, math.MinInt },
		"a state of 2^32":              func(h *api.Hart) { h.State = 1 << 32 },
		"a state of 2^32 + 1":          func(h *api.Hart) { h.State = 1<<32 + api.Halted },
		"a cause of 2^32":              func(h *api.Hart) { h.Cause = 1 << 32 },
		"a cause of 2^32 + 1":          func(h *api.Hart) { h.State, h.Cause = api.Trapped, 1<<32+api.CauseFetch },
	} {
		h := full(5)
		change(&h)
		all[name] = h
	}
	return all
}

// TestPutWrong: M2: each kind of machine that may not be.
func TestPutWrong(t *testing.T) {
	for name, m := range map[string]api.Machine{
		"nothing":                 {},
		"no harts":                of(filled(64)),
		"empty harts":             {Memory: filled(64), Harts: []api.Hart{}},
		"all bytes, no harts":     of(filled(api.MaxMemory)),
		"too many harts":          of(filled(64), make([]api.Hart, api.MaxHarts+1)...),
		"far too many harts":      of(nil, make([]api.Hart, 257)...),
		"too many bytes":          of(filled(api.MaxMemory+1), full(1)),
		"far too many bytes":      of(filled(1<<16), full(1)),
		"too many bytes and none": of(filled(api.MaxMemory + 1)),
		"too many of both":        of(filled(api.MaxMemory+1), make([]api.Hart, api.MaxHarts+1)...),
	} {
		checkPutWrong(t, name, m)
	}
	for name, h := range wrongHarts() {
		checkPutWrong(t, name, of(nil, h))
		for k := range api.MaxHarts {
			m := of(filled(64), full(1), held(full(2), 8), halted(full(3)), trapped(full(4), api.CauseWord))
			m.Harts[k] = h
			checkPutWrong(t, name+", hart "+strconv.Itoa(k), m)
		}
	}
}

// some are machines that may be, of different shapes.
func some() map[string]api.Machine {
	return map[string]api.Machine{
		"no memory, one hart":    of(nil, full(1)),
		"no memory, all 0":       of(nil, api.Hart{}),
		"no memory, all harts":   of(nil, full(1), held(full(2), 8), halted(full(3)), trapped(full(4), api.CauseWord)),
		"one byte, two harts":    of([]byte{1}, held(trapped(full(9), api.CauseStore), ones), full(3)),
		"six bytes, three harts": of(filled(6), first(), first(), halted(held(full(8), 0))),
		"256 bytes, all harts":   of(filled(256), first(), full(7), api.Hart{}, first()),
	}
}

// TestEndsTooEarly: M2: of no bytes, and of bytes that end at each place ahead of their end: within a number, within the memory, within a hart.
func TestEndsTooEarly(t *testing.T) {
	checkGetWrong(t, "nil", nil)
	checkGetWrong(t, "no bytes", []byte{})
	for name, m := range some() {
		b := put(t, name, m)
		for end := range b {
			checkGetWrong(t, name+" up to "+strconv.Itoa(end), b[:end])
			checkGetWrong(t, name+" up to "+strconv.Itoa(end)+", and nothing behind it", slices.Clip(slices.Clone(b[:end])))
		}
	}
	b := put(t, "all bytes", of(filled(api.MaxMemory), first(), first(), first(), first()))
	for _, end := range []int{0, 3, 4, 5, 4099, 4100, 4101, 4103, 4104, 4105, 4104 + whole, 4104 + 3*whole, 4104 + 4*whole - 1} {
		checkGetWrong(t, "all bytes up to "+strconv.Itoa(end), b[:end])
	}
	for end := range 9 {
		checkGetWrong(t, "zeros up to "+strconv.Itoa(end), make([]byte, end))
	}
}

// TestBytesBehind: M2: bytes behind the last hart, whatever they are.
func TestBytesBehind(t *testing.T) {
	for name, m := range some() {
		b := put(t, name, m)
		for _, more := range [][]byte{{0}, {1}, {255}, {0, 0, 0, 0}, {1, 0, 0, 0}, make([]byte, whole-1), make([]byte, whole), make([]byte, whole+1), b, firstBytes()} {
			checkGetWrong(t, name+" and "+strconv.Itoa(len(more))+" more", slices.Concat(b, more))
		}
	}
}

// with is a copy of bytes in which a number stands at a place.
func with(b []byte, at int, n uint32) []byte {
	c := slices.Clone(b)
	binary.LittleEndian.PutUint32(c[at:], n)
	return c
}

// great are numbers that are no size, count or State, up to the greatest; the lowest byte, or two, of some would be one.
func great() []uint32 {
	return []uint32{
		api.MaxMemory + 1, api.MaxMemory + 4, 8192, 1<<16 - 1, 1 << 16, 1<<16 + 1, 1<<16 + 2, 1 << 24, 1<<24 + 1,
		1<<31 - 1, 1 << 31, 1<<31 + 1, 1<<31 + 2, ones - 255, ones - whole, ones - 8, ones - 7, ones - 4, ones - 3, ones - 2, ones - 1, ones,
	}
}

// TestOtherSizes: M2: a memory of more or fewer bytes told than there are, or of more than may be.
func TestOtherSizes(t *testing.T) {
	for name, m := range some() {
		b := put(t, name, m)
		for size := range uint32(api.MaxMemory + 2) {
			if int(size) != len(m.Memory) {
				checkGetWrong(t, name+" told to have "+strconv.Itoa(int(size))+" bytes", with(b, 0, size))
			}
		}
		for _, size := range great() {
			checkGetWrong(t, name+" told to have "+strconv.Itoa(int(size))+" bytes", with(b, 0, size))
		}
	}
	for _, size := range []int{api.MaxMemory + 1, api.MaxMemory + 4, 8192, 1 << 16, 1<<16 + 3} {
		b := binary.LittleEndian.AppendUint32(nil, uint32(size))
		b = slices.Concat(b, filled(size), []byte{1, 0, 0, 0}, firstBytes())
		checkGetWrong(t, "a memory of "+strconv.Itoa(size)+" bytes that are there", b)
	}
}

// TestOtherCounts: M2: no harts, more or fewer told than there are, and more than may be, with them and without.
func TestOtherCounts(t *testing.T) {
	for name, m := range some() {
		b := put(t, name, m)
		at := number + len(m.Memory)
		for count := range uint32(300) {
			if int(count) != len(m.Harts) {
				checkGetWrong(t, name+" told to have "+strconv.Itoa(int(count))+" harts", with(b, at, count))
			}
		}
		for _, count := range great() {
			checkGetWrong(t, name+" told to have "+strconv.Itoa(int(count))+" harts", with(b, at, count))
		}
		checkGetWrong(t, name+" with no harts", with(b, at, 0)[:at+number])
	}
	checkGetWrong(t, "all bytes, no harts", slices.Concat([]byte{0, 16, 0, 0}, filled(api.MaxMemory), []byte{0, 0, 0, 0}))
	for _, count := range []int{api.MaxHarts + 1, api.MaxHarts + 2, 8, 255, 256, 257, 260} {
		b := binary.LittleEndian.AppendUint32(make([]byte, number), uint32(count))
		checkGetWrong(t, strconv.Itoa(count)+" harts that are there", append(b, make([]byte, count*whole)...))
		checkGetWrong(t, strconv.Itoa(count)+" harts, of which some are there", append(b, make([]byte, api.MaxHarts*whole)...))
	}
}

// TestOtherHeld: M2: a Held that is neither 0 nor 1, with a HeldAt and without.
func TestOtherHeld(t *testing.T) {
	odd := append(great(), 2, 3, 4, 128, 254, 255, 256, 257, 512, 1<<8+1)
	for _, h := range []api.Hart{full(1), held(full(1), 0), held(full(1), 12), held(trapped(full(1), 3), ones), {}} {
		b := put(t, "held", of(filled(5), full(4), h, full(5)))
		at := number + 5 + number + whole + atHeld
		for _, n := range odd {
			checkGetWrong(t, "Held "+strconv.Itoa(int(n)), with(b, at, n))
		}
	}
}

// oneField are the bytes of a machine whose hart k has a number at a place.
func oneField(t *testing.T, m api.Machine, k, at int, n uint32) []byte {
	t.Helper()
	return with(put(t, "one field", m), number+len(m.Memory)+number+k*whole+at, n)
}

// TestHartsThatMayNotBe: M2: a register 0 that is not 0, and a HeldAt that is not 0 with Held 0, in each hart.
func TestHartsThatMayNotBe(t *testing.T) {
	m := of(filled(7), full(1), halted(full(2)), trapped(full(3), api.CauseCall), full(4))
	for k := range m.Harts {
		for _, n := range append(great(), 1, 2, 4, 255, 256, 1<<8+1) {
			checkGetWrong(t, "register 0 is "+strconv.Itoa(int(n)), oneField(t, m, k, 0, n))
			checkGetWrong(t, "not Held, at "+strconv.Itoa(int(n)), oneField(t, m, k, atHeldAt, n))
		}
	}
	b := put(t, "held", of(nil, held(full(1), 16)))
	checkGetWrong(t, "a HeldAt of one that is made Held no more", with(b, 2*number+atHeld, 0))
	if h := get(t, "held nowhere", with(b, 2*number+atHeldAt, 0)).Harts[0]; h != held(full(1), 0) {
		t.Errorf("Held at 0: %v", h)
	}
}

// TestStatesAndCauses: M2: each pair of them, up to the greatest: those that go together are a hart's, all others no hart's.
func TestStatesAndCauses(t *testing.T) {
	numbers := append(great(), 0, 1, 2, 3, 4, 5, 6, 7, 8, 255, 256, 257, 258, 512)
	m := of(filled(3), full(1), full(2))
	b := put(t, "states", m)
	at := number + 3 + number + whole
	for _, state := range numbers {
		for _, cause := range numbers {
			name := "State " + strconv.Itoa(int(state)) + ", Cause " + strconv.Itoa(int(cause))
			odd := with(with(b, at+atState, state), at+atCause, cause)
			if state <= 1 && cause == 0 || state == 2 && cause >= 1 && cause <= 6 {
				want := copyOf(m)
				want.Harts[1].State, want.Harts[1].Cause = int(state), int(cause)
				checkBoth(t, name, want, odd)
			} else {
				checkGetWrong(t, name, odd)
			}
		}
	}
}
