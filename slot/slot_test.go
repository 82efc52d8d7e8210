package slot_test

import (
	"math"
	"testing"

	"cableway/api"
	"cableway/slot"
)

const mostGen = 1<<24 - 1

// gens are turns that may be; beyond, numbers that are none, some like one that is in their lower bits.
var (
	gens   = []int{0, 1, 2, 5, 0xff, 0xabcdef, 1 << 23, mostGen - 1, mostGen}
	beyond = []int{
		-1, -2, -mostGen, -mostGen - 1, math.MinInt32, math.MinInt + 5, math.MinInt,
		mostGen + 1, mostGen + 2, 1<<24 + 5, 1 << 25, 1<<32 + 5, math.MaxInt32, 1<<62 + 5, math.MaxInt - 1, math.MaxInt,
	}
)

// states are how a slot can stand; odd, numbers that are no such.
var (
	states = []int{api.SlotFree, api.SlotPending, api.SlotStreams, api.SlotRetired}
	odd    = []int{-1, -2, -3, -4, math.MinInt + 1, math.MinInt, 4, 5, 6, 7, 1<<32 + 1, 1<<62 + 2, math.MaxInt - 1, math.MaxInt}
)

// mosts are numbers of turns that a slot may be told to have.
var mosts = []int{math.MinInt, math.MinInt + 1, -1 << 24, -2, -1, 0, 1, 2, 3, 4, 5, 6, 0xfe, 0xff, 0x100, 0xabcdee, 0xabcdef, 0xabcdf0, mostGen - 2, mostGen - 1, mostGen, mostGen + 1, mostGen + 2, math.MaxInt32, 1 << 40, math.MaxInt - 1, math.MaxInt}

// word is a slot's word, worked out by sums.
func word(g, s int) uint64 { return uint64(g) + uint64(s)*(1<<24) }

// nearest is a number of from to most, or what of these is the nearest to it.
func nearest(n, from, most int) int {
	if n < from {
		return from
	}
	if n > most {
		return most
	}
	return n
}

func goesOn(s int) bool { return s == api.SlotPending || s == api.SlotStreams }

// opens and closes look what Open and Close answer of a word.
func opens(t *testing.T, w uint64, streams bool, most int, want uint64, ok bool) {
	t.Helper()
	if got, is := slot.Open(w, streams, most); got != want || is != ok {
		t.Errorf("Open of %x, %v, %d: %x, %v; not %x, %v", w, streams, most, got, is, want, ok)
	}
}

func closes(t *testing.T, w uint64, most int, want uint64) {
	t.Helper()
	if got := slot.Close(w, most); got != want {
		t.Errorf("Close of %x, %d: %x; not %x", w, most, got, want)
	}
}

// 9.1: some words, by hand.
func TestWordByHand(t *testing.T) {
	for _, c := range []struct {
		g, s int
		w    uint64
	}{
		{0, api.SlotFree, 0},
		{1, api.SlotPending, 0x1000001},
		{0xabcdef, api.SlotStreams, 0x2abcdef},
		{mostGen, api.SlotRetired, 0x3ffffff},
		{mostGen, api.SlotFree, 0xffffff},
		{0, api.SlotRetired, 0x3000000},
	} {
		if got := slot.Word(c.g, c.s); got != c.w {
			t.Errorf("Word of %d, %d: %x", c.g, c.s, got)
		}
	}
}

// 9.1: what a word was made of is told of it, at all edges; what is beyond counts as the nearest.
func TestWord(t *testing.T) {
	for _, g := range append(append([]int{}, gens...), beyond...) {
		for _, s := range append(append([]int{}, states...), odd...) {
			g1, s1 := nearest(g, 0, mostGen), nearest(s, api.SlotFree, api.SlotRetired)
			w := slot.Word(g, s)
			if w != word(g1, s1) {
				t.Errorf("Word of %d, %d: %x", g, s, w)
			}
			if slot.Gen(w) != g1 || slot.State(w) != s1 {
				t.Errorf("Gen and State of Word of %d, %d: %d, %d", g, s, slot.Gen(w), slot.State(w))
			}
		}
	}
}

// 9.1: each bit of a word tells of the turn, of how it stands, or of nothing.
func TestEachBit(t *testing.T) {
	for bit := range 64 {
		g, s := 0, 0
		if bit < 24 {
			g = 1 << bit
		} else if bit < 26 {
			s = 1 << (bit - 24)
		}
		if w := uint64(1) << bit; slot.Gen(w) != g || slot.State(w) != s {
			t.Errorf("the bit %d: %d, %d", bit, slot.Gen(w), slot.State(w))
		}
		if w := ^(uint64(1) << bit); slot.Gen(w) != mostGen-g || slot.State(w) != 3-s {
			t.Errorf("all but the bit %d: %d, %d", bit, slot.Gen(w), slot.State(w))
		}
	}
}

// 9.1: some openings, by hand; the document's example.
func TestOpenByHand(t *testing.T) {
	opens(t, slot.Word(0, api.SlotFree), false, 5, slot.Word(1, api.SlotPending), true)
	opens(t, slot.Word(0, api.SlotFree), true, 5, slot.Word(1, api.SlotStreams), true)
	opens(t, word(4, 0), false, 5, word(5, 1), true)
	opens(t, word(4, 0), true, 5, word(5, 2), true)
	opens(t, word(5, 0), false, 5, word(5, 0), false)
	opens(t, word(6, 0), true, 5, word(6, 0), false)
	opens(t, word(0, 0), false, 1, word(1, 1), true)
	opens(t, word(0, 0), false, 0, word(0, 0), false)
	opens(t, word(0, 0), true, -1, word(0, 0), false)
	opens(t, word(mostGen-1, 0), true, math.MaxInt, word(mostGen, 2), true)
	opens(t, word(mostGen, 0), true, math.MaxInt, word(mostGen, 0), false)
	opens(t, word(2, 1), false, 5, word(2, 1), false)
	opens(t, word(2, 2), true, 5, word(2, 2), false)
	opens(t, word(2, 3), false, 5, word(2, 3), false)
}

// 9.1: just a free slot that has a turn more is taken, of most and MostGen; else its word is told as it was.
func TestOpen(t *testing.T) {
	for _, g := range gens {
		for _, s := range states {
			for _, most := range mosts {
				w := word(g, s)
				if s == api.SlotFree && g < most && g < mostGen {
					opens(t, w, false, most, word(g+1, api.SlotPending), true)
					opens(t, w, true, most, word(g+1, api.SlotStreams), true)
					continue
				}
				opens(t, w, false, most, w, false)
				opens(t, w, true, most, w, false)
			}
		}
	}
}

// 9.1: a word is live for its own turn alone, and as long as that is pending or streaming.
func TestLive(t *testing.T) {
	for _, g := range gens {
		for _, s := range states {
			w := word(g, s)
			for _, h := range gens {
				if slot.Live(w, h) != (g == h && goesOn(s)) {
					t.Errorf("Live of %x, %d: %v", w, h, slot.Live(w, h))
				}
			}
			for _, h := range []int{g - 1, g + 1} {
				if slot.Live(w, h) {
					t.Errorf("Live of %x, %d", w, h)
				}
			}
		}
	}
}

// 9.1: no word is of a turn that there is not, be it like its own in its lower bits.
func TestLiveOfNoTurn(t *testing.T) {
	for _, g := range gens {
		for _, s := range states {
			for _, h := range append([]int{g + 1<<24, g - 1<<24, g + 1<<32, g - 1<<32, g | 1<<62, g | math.MinInt}, beyond...) {
				if slot.Live(word(g, s), h) {
					t.Errorf("Live of %x, %d", word(g, s), h)
				}
			}
		}
	}
}

// 9.1: some closings, by hand.
func TestCloseByHand(t *testing.T) {
	closes(t, word(1, 1), 5, word(1, 0))
	closes(t, word(1, 2), 5, word(1, 0))
	closes(t, word(4, 1), 5, word(4, 0))
	closes(t, word(5, 1), 5, word(5, 3))
	closes(t, word(5, 2), 5, word(5, 3))
	closes(t, word(6, 1), 5, word(6, 3))
	closes(t, word(1, 1), 1, word(1, 3))
	closes(t, word(1, 1), 0, word(1, 3))
	closes(t, word(mostGen-1, 2), math.MaxInt, word(mostGen-1, 0))
	closes(t, word(mostGen, 2), math.MaxInt, word(mostGen, 3))
	closes(t, word(2, 0), 5, word(2, 0))
	closes(t, word(5, 0), 5, word(5, 0))
	closes(t, word(2, 3), 5, word(2, 3))
	closes(t, word(5, 3), 5, word(5, 3))
}

// 9.1: a live word is free, or retired, where it has no turn more; each other one is as it was.
func TestClose(t *testing.T) {
	for _, g := range gens {
		for _, s := range states {
			for _, most := range mosts {
				want := word(g, s)
				if goesOn(s) && g < most && g < mostGen {
					want = word(g, api.SlotFree)
				} else if goesOn(s) {
					want = word(g, api.SlotRetired)
				}
				closes(t, word(g, s), most, want)
			}
		}
	}
}

// 9.1: what is told "as it was" is so in bits that no field has, too.
func TestOtherBitsStay(t *testing.T) {
	for bit := 26; bit < 64; bit++ {
		w := uint64(1) << bit
		opens(t, w|word(2, 1), false, 5, w|word(2, 1), false)
		opens(t, w|word(5, 0), true, 5, w|word(5, 0), false)
		closes(t, w|word(2, 0), 5, w|word(2, 0))
		closes(t, w|word(5, 3), 5, w|word(5, 3))
		if !slot.Live(w|word(2, 1), 2) || slot.Live(w|word(2, 3), 2) {
			t.Errorf("Live with the bit %d", bit)
		}
	}
}

// 9.1 and T2: each turn of a slot comes once, one behind the other, and behind the last one it is retired for good.
func TestTurns(t *testing.T) {
	for most := -1; most <= 40; most++ {
		w, n := slot.Word(0, api.SlotFree), 0
		for {
			next, ok := slot.Open(w, n%3 == 1, most)
			if !ok {
				break
			}
			n++
			if slot.Gen(next) != n || !slot.Live(next, n) || slot.Live(next, n-1) {
				t.Fatalf("the turn %d of %d: %x", n, most, next)
			}
			w = slot.Close(next, most)
			if slot.Live(w, n) || slot.Close(w, most) != w {
				t.Fatalf("behind the turn %d of %d: %x", n, most, w)
			}
		}
		if n != max(most, 0) || n > 0 && slot.State(w) != api.SlotRetired {
			t.Errorf("%d turns of %d, then %x", n, most, w)
		}
	}
}

// 9.1: a slot that may have more turns than a word can tell has MostGen of them.
func TestLastTurns(t *testing.T) {
	for _, most := range []int{mostGen, mostGen + 1, math.MaxInt} {
		w, ok := slot.Open(slot.Word(mostGen-1, api.SlotFree), false, most)
		if !ok || !slot.Live(w, mostGen) {
			t.Errorf("the last turn of %d: %x", most, w)
		}
		w = slot.Close(w, most)
		if w != slot.Word(mostGen, api.SlotRetired) {
			t.Errorf("behind the last turn of %d: %x", most, w)
		}
		opens(t, w, false, most, w, false)
	}
}
