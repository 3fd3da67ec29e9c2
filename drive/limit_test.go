package drive

import (
	"strconv"
	"testing"

	"ferrybridge/api"
)

// TestMostPicks: N2: there are at most MaxScript picks. No script has so many lines: a player is asked, line by line.
func TestMostPicks(t *testing.T) {
	for _, end := range []string{"run", "fast 4"} {
		var p player
		p.answer("hart 0")
		for k := range api.MaxScript {
			if got := p.answer("pick 0 0"); got != "ok "+strconv.Itoa(k+1) {
				t.Fatalf("pick %d: %q", k, got)
			}
		}
		for range 3 {
			if got := p.answer("pick 0 1"); got != "?" {
				t.Errorf("one more: %q", got)
			}
		}
		if got := p.answer(end); got != "ran 0" {
			t.Errorf("%s of the most: %q", end, got)
		}
		if got := p.answer("pick 0 1"); got != "ok 1" {
			t.Errorf("behind %s: %q", end, got)
		}
	}
}

// TestTold: words of an answer: numbers of each kind, any number of them.
func TestTold(t *testing.T) {
	for got, want := range map[string]string{
		joined(told[int]()):                                     "",
		joined(told(0)):                                         "0",
		joined(told(1, 20, 300)):                                "1 20 300",
		joined(told(uint32(4294967295), 0)):                     "4294967295 0",
		joined(told(api.ErrRange)):                              "3",
		joined(told[int](), told(1), told[uint32](), told(2)):   "1 2",
		named[int]("ok"):                                        "ok",
		named("ok", 8):                                          "ok 8",
		named("bad", api.ErrSize):                               "bad 1",
		joined([]string{"is"}, told(1, 2), told(uint32(1<<31))): "is 1 2 2147483648",
	} {
		if got != want {
			t.Errorf("%q, want %q", got, want)
		}
	}
}
