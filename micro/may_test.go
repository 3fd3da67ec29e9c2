package micro_test

import (
	"math"
	"slices"
	"strconv"
	"strings"
	"testing"

	"ferrybridge/api"
	"ferrybridge/micro"
)

const ones = uint32(1<<32 - 1)

// kind is a line of the chapter's table: the ops from first to last, with the fields that they name.
type kind struct {
	name        string
	first, last int
	fields      string
}

// kinds tells the table by numbers, so that it does not lean on how the program reckons them.
func kinds() []kind {
	return []kind{
		{"MAt", 1, 1, "N"}, {"MSet", 2, 2, "DN"}, {"MGo", 3, 3, "N"}, {"MGoReg", 4, 4, "AN"},
		{"MCall", 5, 5, ""}, {"MBreak", 6, 6, ""},
		{"MIf", 105, 110, "ABN"}, {"MLoad", 211, 215, "DAN"}, {"MStore", 316, 318, "ABN"},
		{"MAlu", 428, 445, "DAB"}, {"MAluN", 528, 545, "DAN"}, {"MAtom", 646, 656, "DAB"},
	}
}

// ops are all that there are, with the fields that each names.
func ops() map[int]string {
	all := map[int]string{}
	for _, k := range kinds() {
		for op := k.first; op <= k.last; op++ {
			all[op] = k.fields
		}
	}
	return all
}

// with is a small step with one of its registers changed.
func with(m api.Micro, field string, n int) api.Micro {
	switch field {
	case "D":
		m.D = n
	case "A":
		m.A = n
	case "B":
		m.B = n
	}
	return m
}

func checkMay(t *testing.T, name string, want bool, code ...api.Micro) {
	t.Helper()
	was := slices.Clone(code)
	if got := micro.May(code); got != want {
		t.Errorf("%s: May(%v) = %v", name, code, got)
	}
	if !slices.Equal(code, was) {
		t.Errorf("%s: what was handed in became %v", name, code)
	}
}

// TestMayOps: G1: each op of the table, and none other, next to them, between them and far from them.
func TestMayOps(t *testing.T) {
	all := ops()
	if len(all) != 67 {
		t.Fatalf("%d ops", len(all))
	}
	for op := -1000; op <= 2000; op++ {
		_, is := all[op]
		checkMay(t, "op "+strconv.Itoa(op), is, api.Micro{Op: op})
	}
	for op := range all {
		for _, far := range []int{math.MinInt, math.MinInt32, math.MaxInt - 1000, -1 << 16, 1 << 8, 1 << 16, 1 << 32} {
			checkMay(t, "far from op "+strconv.Itoa(op), false, api.Micro{Op: far + op})
		}
	}
	for k := range 1000 {
		checkMay(t, "the greatest op", false, api.Micro{Op: math.MaxInt - k})
		checkMay(t, "the least op", false, api.Micro{Op: math.MinInt + k})
	}
}

// TestMayBare: G1: a number that an operation is to be added to is none, nor is one with an operation of another kind.
func TestMayBare(t *testing.T) {
	for _, base := range []int{api.MIf, api.MLoad, api.MStore, api.MAlu, api.MAluN, api.MAtom} {
		checkMay(t, "nothing added to it", false, api.Micro{Op: base})
	}
	for _, op := range []int{
		api.MIf + api.JALR, api.MIf + api.LB, api.MLoad + api.BGEU, api.MLoad + api.SB, api.MStore + api.LHU, api.MStore + api.ADDI,
		api.MAlu + api.SRAI, api.MAlu + api.LRW, api.MAluN + api.ADDI, api.MAluN + api.SRAI, api.MAluN + api.LRW,
		api.MAtom + api.REMU, api.MAtom + api.FENCE, api.MAtom + api.ECALL, api.MCall + api.ECALL, api.MBreak + 1, 0,
	} {
		checkMay(t, "an operation of another kind", false, api.Micro{Op: op})
	}
}

// TestMayRegisters: G1: of each op, D, A and B at their bounds and beyond them, where they are named; else only 0.
func TestMayRegisters(t *testing.T) {
	for op, fields := range ops() {
		for _, field := range []string{"D", "A", "B"} {
			named := strings.Contains(fields, field)
			for n := -40; n <= 80; n++ {
				want := n == 0 || named && n >= 0 && n <= 35
				checkMay(t, field, want, with(api.Micro{Op: op}, field, n))
			}
			for _, n := range []int{math.MinInt, math.MinInt32, -1 << 8, 1 << 8, 1 << 16, 1 << 32, 1<<32 + 5, math.MaxInt} {
				checkMay(t, field, false, with(api.Micro{Op: op}, field, n))
			}
		}
	}
}

// TestMayNumber: G1: of each op, N is any number, where it is named; else only 0.
func TestMayNumber(t *testing.T) {
	for op, fields := range ops() {
		named := strings.Contains(fields, "N")
		for _, n := range []uint32{1, 2, 3, 35, 36, 1 << 8, 1 << 16, 1<<31 - 1, 1 << 31, ones} {
			checkMay(t, "N", named, api.Micro{Op: op, N: n})
		}
	}
}

// full is a small step of an op with all that it names at the greatest.
func full(op int, fields string) api.Micro {
	m := api.Micro{Op: op}
	for _, field := range fields {
		if field == 'N' {
			m.N = ones
		}
		m = with(m, string(field), 35)
	}
	return m
}

// TestMayFull: G1: all fields that are named together, and one wrong thing in one of them, or in one that is not named.
func TestMayFull(t *testing.T) {
	for op, fields := range ops() {
		m := full(op, fields)
		checkMay(t, "full", true, m)
		for _, field := range []string{"D", "A", "B"} {
			checkMay(t, "full, but "+field, false, with(m, field, 36))
			checkMay(t, "full, but "+field, false, with(m, field, -1))
			if !strings.Contains(fields, field) {
				checkMay(t, "full, but "+field, false, with(m, field, 1))
			}
		}
		if m.N = 1; !strings.Contains(fields, "N") {
			checkMay(t, "full, but N", false, m)
		}
	}
}

// TestMayLength: G1: MaxMicro small steps, of each op, and one more.
func TestMayLength(t *testing.T) {
	checkMay(t, "none", true)
	checkMay(t, "none, not nil", true, []api.Micro{}...)
	for op, fields := range ops() {
		code := slices.Repeat([]api.Micro{full(op, fields)}, 5*api.MaxMicro)
		for _, n := range []int{1, 2, 199, api.MaxMicro} {
			checkMay(t, strconv.Itoa(n)+" of them", true, code[:n]...)
		}
		for _, n := range []int{201, api.MaxMicro + 1, 256, 5 * api.MaxMicro} {
			checkMay(t, strconv.Itoa(n)+" of them", false, code[:n]...)
		}
	}
}

// TestMayEach: G1: one wrong small step is enough, wherever it stands; P3: but not behind the length.
func TestMayEach(t *testing.T) {
	var code []api.Micro
	for op, fields := range ops() {
		code = append(code, full(op, fields))
	}
	checkMay(t, "one of each", true, code...)
	for k := range code {
		for name, wrong := range map[string]api.Micro{"empty": {}, "D": {Op: api.MGo, D: 1}, "B": {Op: api.MAtom + api.SCW, B: 36}} {
			row := slices.Clone(code)
			row[k] = wrong
			checkMay(t, name+" at "+strconv.Itoa(k), false, row...)
			checkMay(t, name+" behind the length", true, row[:k]...)
		}
	}
}
