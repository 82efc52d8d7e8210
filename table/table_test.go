package table_test

import (
	"math"
	"slices"
	"testing"

	"cableway/api"
	"cableway/arena"
	"cableway/slot"
	"cableway/table"
)

const (
	mostGen   = 1<<24 - 1
	mostSlots = 16
	mostCells = 1 << 14
)

// Words of a slot's turn, as it may stand behind its being closed, and as it does not.
var (
	freed   = slot.Word(1, api.SlotFree)
	retired = slot.Word(1, api.SlotRetired)
	pending = slot.Word(1, api.SlotPending)
	streams = slot.Word(1, api.SlotStreams)
)

// made is a table that may be.
func made(t *testing.T, base, slots, gens int) *table.Table {
	t.Helper()
	b := table.New(api.Table{Base: base, Slots: slots, Gens: gens})
	if b == nil {
		t.Fatalf("New of %d, %d, %d: nil", base, slots, gens)
	}
	return b
}

// cells are so many cells, of which none has a word.
func cells(t *testing.T, n int) *arena.Arena {
	t.Helper()
	a := arena.New(n)
	if a == nil {
		t.Fatalf("no %d cells", n)
	}
	return a
}

// upTo is 0 to n - 1.
func upTo(n int) []int {
	l := make([]int, n)
	for i := range l {
		l[i] = i
	}
	return l
}

// beyond are numbers of slots that there are not, where there are n.
func beyond(n int) []int {
	return []int{-1, -2, -n - 1, math.MinInt, math.MinInt + 1, n, n + 1, 2*n + 1, mostSlots, mostSlots + 1, mostCells, math.MaxInt - 1, math.MaxInt}
}

// counts looks how many slots can be taken, and how many never will.
func counts(t *testing.T, b *table.Table, free, retired int) {
	t.Helper()
	if b.Free() != free || b.Retired() != retired {
		t.Fatalf("%d free, %d retired; not %d, %d", b.Free(), b.Retired(), free, retired)
	}
}

// picks looks whether these slots are picked, in this order.
func picks(t *testing.T, b *table.Table, want ...int) {
	t.Helper()
	for _, i := range want {
		if got, ok := b.Pick(); got != i || !ok {
			t.Fatalf("Pick: %d, %v; not %d", got, ok, i)
		}
	}
}

// picksNone looks whether none can be picked: the number is 0 then.
func picksNone(t *testing.T, b *table.Table) {
	t.Helper()
	for range 2 {
		if i, ok := b.Pick(); i != 0 || ok {
			t.Fatalf("Pick, where there is none: %d, %v", i, ok)
		}
	}
}

// backs looks whether a slot is back with a word, or is not.
func backs(t *testing.T, b *table.Table, i int, w uint64, want bool) {
	t.Helper()
	if got := b.Back(i, w); got != want {
		t.Fatalf("Back of %d, %x: %v", i, w, got)
	}
}

// may looks what May tells, and that New makes just what may be.
func may(t *testing.T, x api.Table, want bool) {
	t.Helper()
	if table.May(x) != want {
		t.Errorf("May of %v: %v", x, !want)
	}
	if (table.New(x) != nil) != want {
		t.Errorf("New of %v: not as May", x)
	}
}

// 10.1: some tables, by hand.
func TestMayByHand(t *testing.T) {
	may(t, api.Table{Base: 0, Slots: 1, Gens: 1}, true)
	may(t, api.Table{Base: 7, Slots: 3, Gens: 5}, true)
	may(t, api.Table{Base: 0, Slots: 16, Gens: mostGen}, true)
	may(t, api.Table{Base: mostCells - 1, Slots: 1, Gens: 1}, true)
	may(t, api.Table{Base: mostCells - 16, Slots: 16, Gens: 1}, true)
	may(t, api.Table{}, false)
	may(t, api.Table{Base: -1, Slots: 2, Gens: 1}, false)
	may(t, api.Table{Base: mostCells - 15, Slots: 16, Gens: 1}, false)
	may(t, api.Table{Base: mostCells, Slots: 1, Gens: 1}, false)
	may(t, api.Table{Base: 0, Slots: 0, Gens: 1}, false)
	may(t, api.Table{Base: 0, Slots: 17, Gens: 1}, false)
	may(t, api.Table{Base: 0, Slots: 1, Gens: 0}, false)
	may(t, api.Table{Base: 0, Slots: 1, Gens: mostGen + 1}, false)
	may(t, api.Table{Base: math.MaxInt, Slots: 1, Gens: 1}, false)
	may(t, api.Table{Base: math.MaxInt, Slots: 16, Gens: 1}, false)
	may(t, api.Table{Base: 0, Slots: math.MinInt, Gens: 1}, false)
}

// 10.1: a table may be just if its slots, their cells and their turns are as many as may be, at all edges.
func TestMay(t *testing.T) {
	gens := []int{math.MinInt, -1, 0, 1, 2, mostGen - 1, mostGen, mostGen + 1, 1 << 32, 1<<32 + 1, math.MaxInt}
	slots := append(beyond(mostSlots), upTo(mostSlots+2)...)
	bases := []int{math.MinInt, math.MinInt + 1, -mostCells, -16, -2, -1, 0, 1, 2, 1000, mostCells + 1, 2 * mostCells, 1 << 32, math.MaxInt - 16, math.MaxInt - 1, math.MaxInt}
	for d := range mostSlots + 3 {
		bases = append(bases, mostCells-d)
	}
	for _, g := range gens {
		for _, s := range slots {
			for _, b := range bases {
				want := g >= 1 && g <= mostGen && s >= 1 && s <= mostSlots && b >= 0 && b <= mostCells-1
				// The last cell is asked for where it can be told.
				want = want && b+s-1 <= mostCells-1
				may(t, api.Table{Base: b, Slots: s, Gens: g}, want)
			}
		}
	}
}

// 10.1: each slot has its own cell, one behind the other; of those that there are not: -1.
func TestCell(t *testing.T) {
	for slots := 1; slots <= mostSlots; slots++ {
		for _, base := range []int{0, 1, 7, mostCells - slots} {
			b := made(t, base, slots, 3)
			for i := range slots {
				if b.Cell(i) != base+i {
					t.Errorf("Cell of %d of %d from %d on: %d", i, slots, base, b.Cell(i))
				}
			}
			for _, i := range append(beyond(slots), -base, mostCells-base, math.MaxInt-base) {
				if (i < 0 || i >= slots) && b.Cell(i) != -1 {
					t.Errorf("Cell of %d of %d from %d on: %d", i, slots, base, b.Cell(i))
				}
			}
		}
	}
}

// 10.1: a slot has the turns that the table was made with, whatever its slots do.
func TestMost(t *testing.T) {
	for _, gens := range []int{1, 2, 5, mostGen - 1, mostGen} {
		b := made(t, 4, 2, gens)
		if b.Most() != gens {
			t.Errorf("Most of %d: %d", gens, b.Most())
		}
		picks(t, b, 0, 1)
		backs(t, b, 0, retired, true)
		backs(t, b, 1, freed, true)
		if b.Most() != gens {
			t.Errorf("Most of %d, later: %d", gens, b.Most())
		}
	}
}

// 10.1: all slots of a new table can be taken, in order, and then none.
func TestPick(t *testing.T) {
	for slots := 1; slots <= mostSlots; slots++ {
		b := made(t, 9, slots, 1)
		counts(t, b, slots, 0)
		for i := range slots {
			picks(t, b, i)
			counts(t, b, slots-i-1, 0)
		}
		picksNone(t, b)
		counts(t, b, 0, 0)
	}
}

// 10.1: a slot that is back, free, can be taken again: the one that was back first ahead, behind those that were not taken yet.
func TestBackFree(t *testing.T) {
	b := made(t, 0, 4, 9)
	picks(t, b, 0, 1, 2)
	backs(t, b, 2, freed, true)
	counts(t, b, 2, 0)
	backs(t, b, 0, freed, true)
	counts(t, b, 3, 0)
	picks(t, b, 3, 2, 0)
	picksNone(t, b)
	for _, i := range []int{1, 3, 0, 2} {
		backs(t, b, i, freed, true)
	}
	counts(t, b, 4, 0)
	picks(t, b, 1, 3, 0, 2)
	picksNone(t, b)
}

// 10.1: a slot that is back, retired, never can be taken again, nor is it back once more; the document's example.
func TestBackRetired(t *testing.T) {
	b := made(t, 0, 3, 9)
	picks(t, b, 0)
	backs(t, b, 0, retired, true)
	counts(t, b, 2, 1)
	for _, w := range []uint64{freed, retired, pending, streams, 0} {
		backs(t, b, 0, w, false)
		counts(t, b, 2, 1)
	}
	picks(t, b, 1, 2)
	backs(t, b, 2, retired, true)
	counts(t, b, 0, 2)
	picksNone(t, b)
	backs(t, b, 1, freed, true)
	counts(t, b, 1, 2)
	picks(t, b, 1)
	backs(t, b, 1, retired, true)
	counts(t, b, 0, 3)
	picksNone(t, b)
	for i := range 3 {
		backs(t, b, i, freed, false)
		backs(t, b, i, retired, false)
	}
	counts(t, b, 0, 3)
}

// 10.1: a word that is neither free nor retired brings nothing back: the slot stays picked.
func TestBackOfAnotherWord(t *testing.T) {
	b := made(t, 0, 2, 9)
	picks(t, b, 0)
	for _, g := range []int{0, 1, 2, 9, 10, 1 << 23, mostGen} {
		for _, s := range []int{api.SlotPending, api.SlotStreams} {
			backs(t, b, 0, slot.Word(g, s), false)
			counts(t, b, 1, 0)
		}
	}
	picks(t, b, 1)
	picksNone(t, b)
	backs(t, b, 0, freed, true)
	counts(t, b, 1, 0)
	backs(t, b, 1, pending, false)
	backs(t, b, 1, retired, true)
	counts(t, b, 1, 1)
}

// 10.1: of which turn a word is does not matter for its slot's being back, nor that it would have no turn more.
func TestBackOfEachTurn(t *testing.T) {
	for _, g := range []int{0, 1, 2, 3, 1 << 23, mostGen - 1, mostGen} {
		b := made(t, 0, 2, 2)
		picks(t, b, 0, 1)
		backs(t, b, 1, slot.Word(g, api.SlotFree), true)
		counts(t, b, 1, 0)
		backs(t, b, 0, slot.Word(g, api.SlotRetired), true)
		counts(t, b, 1, 1)
		picks(t, b, 1)
		picksNone(t, b)
	}
}

// 10.1: a slot that was not picked, or was back since then, is not back, and stands where it stood.
func TestBackOfWhatWasNotPicked(t *testing.T) {
	b := made(t, 0, 3, 9)
	for i := range 3 {
		for _, w := range []uint64{freed, retired, pending, streams, 0} {
			backs(t, b, i, w, false)
			counts(t, b, 3, 0)
		}
	}
	picks(t, b, 0, 1)
	backs(t, b, 2, freed, false)
	backs(t, b, 2, retired, false)
	counts(t, b, 1, 0)
	backs(t, b, 1, freed, true)
	backs(t, b, 1, freed, false)
	backs(t, b, 1, retired, false)
	counts(t, b, 2, 0)
	picks(t, b, 2, 1)
	picksNone(t, b)
}

// 10.1: a slot that there is not is not back.
func TestBackOfNone(t *testing.T) {
	for _, slots := range []int{1, 2, 5, mostSlots} {
		b := made(t, 3, slots, 9)
		for free := slots; free >= 0; free-- {
			for _, i := range beyond(slots) {
				// Some of these numbers are slots where there are many.
				if i >= 0 && i < slots {
					continue
				}
				backs(t, b, i, freed, false)
				backs(t, b, i, retired, false)
				backs(t, b, i, pending, false)
			}
			counts(t, b, free, 0)
			if free > 0 {
				picks(t, b, slots-free)
			}
		}
	}
}

// 10.1: those words are live that are of a turn that goes on, pending or streaming, whichever it is.
func TestLive(t *testing.T) {
	for _, base := range []int{0, 5} {
		b, a := made(t, base, 3, 9), cells(t, 12)
		if b.Live(a) != 0 {
			t.Errorf("Live of a new one: %d", b.Live(a))
		}
		for _, g := range []int{0, 1, 9, 10, mostGen} {
			for s, want := range []int{0, 1, 1, 0} {
				a.Write(base+1, slot.Word(g, s))
				if b.Live(a) != want {
					t.Errorf("Live, where a word is %x: %d", slot.Word(g, s), b.Live(a))
				}
			}
		}
	}
}

// 10.1: all slots' words are looked at, and no others.
func TestLiveOfEach(t *testing.T) {
	for _, slots := range []int{1, 2, 7, mostSlots} {
		for _, base := range []int{0, 1, mostCells - slots - 1, mostCells - slots} {
			b, a := made(t, base, slots, 9), cells(t, mostCells)
			for i := range slots {
				a.Write(base+i, pending)
				if b.Live(a) != i+1 {
					t.Errorf("Live behind the slot %d of %d: %d", i, slots, b.Live(a))
				}
			}
			a.Write(base-1, pending)
			a.Write(base+slots, streams)
			if b.Live(a) != slots {
				t.Errorf("Live with words of others: %d of %d", b.Live(a), slots)
			}
			a.Write(base, freed)
			a.Write(base+slots-1, retired)
			if want := max(slots-2, 0); b.Live(a) != want {
				t.Errorf("Live behind two ends: %d, not %d", b.Live(a), want)
			}
		}
	}
}

// 10.1: Live hangs on the words alone, not on what was picked.
func TestLiveIsOfWords(t *testing.T) {
	b, a := made(t, 0, 3, 9), cells(t, 3)
	a.Write(2, streams)
	picks(t, b, 0, 1)
	if b.Live(a) != 1 {
		t.Errorf("Live, where two were picked: %d", b.Live(a))
	}
	backs(t, b, 0, retired, true)
	a.Write(0, pending)
	if b.Live(a) != 2 {
		t.Errorf("Live, where a word is not as its slot was told: %d", b.Live(a))
	}
	counts(t, b, 1, 1)
}

// 10.1: Live is a look: it touches no cell, and changes none.
func TestLiveIsALook(t *testing.T) {
	b, a := made(t, 1, 3, 9), cells(t, 3)
	a.Write(2, pending)
	a.Begin()
	if b.Live(a) != 1 || len(a.Touched()) != 0 || a.Stray() != 0 {
		t.Errorf("Live: %d; touched %v, stray %d", b.Live(a), a.Touched(), a.Stray())
	}
	if a.Look(0) != 0 || a.Look(1) != 0 || a.Look(2) != pending {
		t.Error("cells were changed")
	}
}

// 10.1: cells that there are not are of no turn that goes on.
func TestLiveWithoutCells(t *testing.T) {
	b, a := made(t, 2, 4, 9), cells(t, 4)
	for at := range 4 {
		a.Write(at, pending)
	}
	if b.Live(a) != 2 {
		t.Errorf("Live of an arena that ends within: %d", b.Live(a))
	}
	if b.Live(cells(t, 2)) != 0 || b.Live(nil) != 0 {
		t.Error("Live without cells")
	}
}

// 10.1: each order of few calls, against a plain list.
func TestAllOrders(t *testing.T) {
	for slots, calls := range []int{1: 5, 2: 4, 3: 4} {
		if slots > 0 {
			walk(t, slots, nil, calls)
		}
	}
}

// did is a call: of Back, with a slot and a word; of Pick, where the slot is pick.
type did struct {
	i int
	w uint64
}

const pick = -9

// walk goes on from some calls with each further one: slots that there are not are among them.
func walk(t *testing.T, slots int, calls []did, left int) {
	play(t, slots, calls)
	if left == 0 {
		return
	}
	walk(t, slots, append(slices.Clone(calls), did{i: pick}), left-1)
	for i := -1; i <= slots; i++ {
		for _, w := range []uint64{freed, retired, streams} {
			walk(t, slots, append(slices.Clone(calls), did{i, w}), left-1)
		}
	}
}

// plain is what a table is held against: which slots can be taken, in order, which are picked, which never will be.
type plain struct {
	line, picked, retired []int
}

// play holds some calls against a plain list.
func play(t *testing.T, slots int, calls []did) {
	t.Helper()
	b, p := made(t, 0, slots, 9), &plain{line: upTo(slots)}
	for _, c := range calls {
		p.call(t, b, c)
	}
	counts(t, b, len(p.line), len(p.retired))
}

// call does one call, and holds what it answers.
func (p *plain) call(t *testing.T, b *table.Table, c did) {
	t.Helper()
	if c.i == pick {
		if len(p.line) == 0 {
			picksNone(t, b)
			return
		}
		picks(t, b, p.line[0])
		p.picked, p.line = append(p.picked, p.line[0]), p.line[1:]
		return
	}
	at := slices.Index(p.picked, c.i)
	ok := at >= 0 && c.w != streams
	backs(t, b, c.i, c.w, ok)
	if !ok {
		return
	}
	p.picked = slices.Delete(p.picked, at, at+1)
	if c.w == freed {
		p.line = append(p.line, c.i)
	} else {
		p.retired = append(p.retired, c.i)
	}
}

// 10.1: very many calls, drawn by a rule, against a plain list.
func TestLong(t *testing.T) {
	for _, slots := range []int{1, 5, mostSlots} {
		b, p, x := made(t, 2, slots, 9), &plain{line: upTo(slots)}, uint64(slots)
		for range 20000 {
			x = x*6364136223846793005 + 1442695040888963407
			c := did{int(x>>33)%(slots+2) - 1, freed}
			switch x >> 60 {
			case 0, 1, 2, 3, 4, 5:
				c.i = pick
			case 6:
				c.w = streams
			case 7:
				// Seldom, as few slots can be retired.
				if x>>50&0xff == 0 {
					c.w = retired
				}
			}
			p.call(t, b, c)
			counts(t, b, len(p.line), len(p.retired))
		}
	}
}

// 10.1 and T2: slots go through all their turns, till all are retired; free, retired and live ones are always all.
func TestTurns(t *testing.T) {
	for _, gens := range []int{1, 2, 5} {
		b, a := made(t, 3, 4, gens), cells(t, 8)
		begun := 0
		for {
			i, ok := b.Pick()
			if !ok {
				break
			}
			w, open := slot.Open(a.Read(b.Cell(i)), begun%2 == 1, b.Most())
			if !open {
				t.Fatalf("the slot %d, that was picked, has no turn more", i)
			}
			begun++
			a.Write(b.Cell(i), w)
			backs(t, b, i, w, false)
			if b.Live(a) != 1 || b.Free()+b.Retired()+b.Live(a) != 4 {
				t.Fatalf("free %d, retired %d, live %d", b.Free(), b.Retired(), b.Live(a))
			}
			w = slot.Close(w, b.Most())
			a.Write(b.Cell(i), w)
			backs(t, b, i, w, true)
			if b.Live(a) != 0 || b.Free()+b.Retired() != 4 {
				t.Fatalf("free %d, retired %d, live %d", b.Free(), b.Retired(), b.Live(a))
			}
		}
		counts(t, b, 0, 4)
		if begun != 4*gens {
			t.Errorf("%d turns of %d each", begun, gens)
		}
	}
}

// 10.1: each client alone knows its own, also where they have the same cells.
func TestTwo(t *testing.T) {
	b, c := made(t, 0, 3, 9), made(t, 0, 3, 9)
	picks(t, b, 0, 1)
	counts(t, c, 3, 0)
	backs(t, c, 0, freed, false)
	picks(t, c, 0)
	backs(t, c, 0, retired, true)
	counts(t, b, 1, 0)
	backs(t, b, 0, freed, true)
	counts(t, b, 2, 0)
	counts(t, c, 2, 1)
}

// 10.1: of none there is nothing, and of a plain one.
func TestNone(t *testing.T) {
	a := cells(t, 4)
	a.Write(0, pending)
	for _, b := range []*table.Table{nil, {}, table.New(api.Table{})} {
		counts(t, b, 0, 0)
		picksNone(t, b)
		if b.Most() != 0 || b.Live(a) != 0 || b.Live(nil) != 0 {
			t.Errorf("Most %d, Live %d", b.Most(), b.Live(a))
		}
		for _, i := range append(beyond(0), 0, 1) {
			backs(t, b, i, freed, false)
			backs(t, b, i, retired, false)
			if b.Cell(i) != -1 {
				t.Errorf("Cell of %d: %d", i, b.Cell(i))
			}
		}
		counts(t, b, 0, 0)
	}
}
