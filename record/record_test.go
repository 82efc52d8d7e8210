package record_test

import (
	"math"
	"slices"
	"testing"

	"cableway/api"
	"cableway/attempt"
	"cableway/chunks"
	"cableway/credit"
	"cableway/record"
)

const most = 32 // as the chapter's given limit is

// numbers are rooms, slots, turns and ways of ending, also what may not be.
var numbers = []int{
	math.MinInt, math.MinInt + 1, math.MinInt32, -1 << 32, -1<<32 + 1, -100, -33, -32, -2, -1, 0, 1, 2, 3, 4, 5, 6, 15, 16, 17,
	30, 31, 32, 33, 63, 64, 65, 100, 255, 256, 1<<24 - 1, 1 << 24, math.MaxInt32, 1 << 32, 1<<32 + 1, 1<<32 + 32, math.MaxInt - 1, math.MaxInt,
}

// calls are numbers of calls at their edges.
var calls = []uint32{0, 1, 2, 3, 31, 32, 33, 255, 256, 65535, 65536, 1<<31 - 1, 1 << 31, 1<<31 + 1, math.MaxUint32 - 1, math.MaxUint32}

// nearest is the number from one on up to another one that counts for n, case by case.
func nearest(n, from, to int) int {
	switch {
	case n < from:
		return from
	case n > to:
		return to
	}
	return n
}

// of is the record of a call in a slot's turn, that goes on.
func of(call uint32, slot, gen int) *record.Record {
	return &record.Record{F: api.Frame{Kind: api.KindRequest, Call: call, Slot: slot, Gen: gen}}
}

// puts fails where a record is not laid, or is, other than it must be.
func puts(t *testing.T, b *record.Book, r *record.Record, want bool) {
	t.Helper()
	if got := b.Put(r); got != want {
		t.Fatalf("Put(%+v) = %v, not %v", r, got, want)
	}
}

// drops fails where a call's record is not taken away, or is, other than it must be.
func drops(t *testing.T, b *record.Book, call uint32, want bool) {
	t.Helper()
	if got := b.Drop(call); got != want {
		t.Fatalf("Drop(%d) = %v, not %v", call, got, want)
	}
}

// finds fails where another record is a call's.
func finds(t *testing.T, b *record.Book, call uint32, want *record.Record) {
	t.Helper()
	if got := b.Find(call); got != want {
		t.Fatalf("Find(%d) = %p, not %p", call, got, want)
	}
}

// lives fails where another record is that of a slot's turn.
func lives(t *testing.T, b *record.Book, slot, gen int, want *record.Record) {
	t.Helper()
	if got := b.Live(slot, gen); got != want {
		t.Fatalf("Live(%d, %d) = %p, not %p", slot, gen, got, want)
	}
}

// has fails where a book has other calls, or room where it has none.
func has(t *testing.T, b *record.Book, room bool, want ...uint32) {
	t.Helper()
	if got := b.All(); !slices.Equal(got, want) {
		t.Fatalf("All() = %d, not %d", got, want)
	}
	if got := b.Len(); got != len(want) {
		t.Fatalf("Len() = %d, not %d", got, len(want))
	}
	if got := b.Room(); got != room {
		t.Fatalf("Room() = %v, not %v", got, room)
	}
}

// filled is a book of which all room is taken, by the calls from 0 on, each in a slot of its own.
func filled(t *testing.T, room int) (*record.Book, []*record.Record) {
	t.Helper()
	b := record.New(room)
	var all []*record.Record
	for n := range room {
		r := of(uint32(n), n, 1)
		puts(t, b, r, true)
		all = append(all, r)
	}
	return b, all
}

// plain is a book as two lists: the records, and which calls they are of when they came.
type plain struct {
	room int
	list []*record.Record
}

func (p *plain) find(call uint32) *record.Record {
	for _, r := range p.list {
		if r.F.Call == call {
			return r
		}
	}
	return nil
}

func (p *plain) live(slot, gen int) *record.Record {
	for _, r := range p.list {
		if r.How != 0 {
			continue
		}
		if r.F.Slot == slot && r.F.Gen == gen {
			return r
		}
	}
	return nil
}

func (p *plain) put(r *record.Record) bool {
	if len(p.list) >= p.room {
		return false
	}
	if p.find(r.F.Call) != nil {
		return false
	}
	p.list = append(p.list, r)
	return true
}

func (p *plain) drop(call uint32) bool {
	var left []*record.Record
	gone := false
	for _, r := range p.list {
		if r.F.Call == call && !gone {
			gone = true
			continue
		}
		left = append(left, r)
	}
	p.list = left
	return gone
}

func (p *plain) all() []uint32 {
	var all []uint32
	for _, r := range p.list {
		all = append(all, r.F.Call)
	}
	return all
}

// same fails where a book tells other than a plain one does, of so many calls, slots and turns.
func same(t *testing.T, b *record.Book, p *plain, callsOf uint32, slots, gens int) {
	t.Helper()
	has(t, b, len(p.list) < p.room, p.all()...)
	for call := range callsOf {
		finds(t, b, call, p.find(call))
	}
	for slot := range slots {
		for gen := range gens {
			lives(t, b, slot, gen, p.live(slot, gen))
		}
	}
}

// 28.1: the document's example: what is laid is found.
func TestExample(t *testing.T) {
	b := record.New(1)
	r := of(7, 3, 4)
	puts(t, b, r, true)
	finds(t, b, 7, r)
}

// 28.1: the numbers that the chapter tells.
func TestNumbers(t *testing.T) {
	if api.MostRecords != most || record.New(math.MaxInt).Len() != 0 {
		t.Errorf("MostRecords = %d, not %d", api.MostRecords, most)
	}
	ends := []int{api.EndNone, api.EndReply, api.EndStream, api.EndTimeout, api.EndCancelled, api.EndFailed}
	if !slices.Equal(ends, []int{0, 1, 2, 3, 4, 5}) {
		t.Errorf("the ends are %d", ends)
	}
}

// 28.1: a book has as much room as it was given, from 0 to MostRecords; beyond, as much as the nearest.
func TestRooms(t *testing.T) {
	for _, n := range numbers {
		b, room := record.New(n), nearest(n, 0, most)
		for call := range uint32(room) {
			if !b.Room() {
				t.Fatalf("New(%d) has no room for %d", n, call)
			}
			puts(t, b, of(call, 0, 0), true)
		}
		if b.Room() || b.Len() != room {
			t.Fatalf("New(%d): Room() = %v, Len() = %d", n, b.Room(), b.Len())
		}
		puts(t, b, of(1000, 0, 0), false)
		if b.Len() != room || b.Find(1000) != nil {
			t.Fatalf("New(%d) laid what it has no room for", n)
		}
	}
}

// 28.1: each room from none on: what goes makes room for one more, and for no other one.
func TestRoomAgain(t *testing.T) {
	for room := range most + 1 {
		b, _ := filled(t, room)
		for n := range uint32(room) {
			drops(t, b, n, true)
			puts(t, b, of(100+n, 0, 0), true)
			puts(t, b, of(200+n, 0, 0), false)
			if b.Len() != room || b.Room() {
				t.Fatalf("room %d: Len() = %d, Room() = %v", room, b.Len(), b.Room())
			}
		}
	}
}

// 28.1: no record is none: it takes no room.
func TestPutNone(t *testing.T) {
	b := record.New(2)
	puts(t, b, nil, false)
	has(t, b, true)
	finds(t, b, 0, nil)
	lives(t, b, 0, 0, nil)
	puts(t, b, of(0, 0, 0), true)
	puts(t, b, nil, false)
	has(t, b, true, 0)
	drops(t, b, 0, true)
	has(t, b, true)
}

// 28.1: of each call there is one record: another one of it is not laid, whatever else it tells, and how ever the first one ended; the first one stays.
func TestPutTwice(t *testing.T) {
	for _, call := range calls {
		for _, how := range numbers {
			b := record.New(3)
			r := of(call, 3, 4)
			r.How = how
			puts(t, b, r, true)
			puts(t, b, r, false)
			puts(t, b, of(call, 3, 4), false)
			puts(t, b, of(call, 5, 6), false)
			has(t, b, true, call)
			finds(t, b, call, r)
			lives(t, b, 5, 6, nil)
		}
	}
}

// 28.1: what is of another call is another one, be it in the same slot's turn, and of the same client and service.
func TestPutOthers(t *testing.T) {
	b := record.New(most)
	var all []*record.Record
	for _, call := range calls {
		r := of(call, 3, 4)
		puts(t, b, r, true)
		all = append(all, r)
	}
	has(t, b, true, calls...)
	for i, call := range calls {
		finds(t, b, call, all[i])
	}
}

// 28.1: of a full book a record of one of its calls is as little laid as any other.
func TestPutFull(t *testing.T) {
	b, all := filled(t, 3)
	puts(t, b, all[0], false)
	puts(t, b, of(2, 9, 9), false)
	puts(t, b, of(3, 9, 9), false)
	has(t, b, false, 0, 1, 2)
	for n, r := range all {
		finds(t, b, uint32(n), r)
	}
}

// 28.1: a call is found by its number alone, not by one that wraps round to it; of others there is none.
func TestFind(t *testing.T) {
	for _, call := range calls {
		b := record.New(1)
		r := of(call, 3, 4)
		puts(t, b, r, true)
		for _, other := range calls {
			if other == call {
				finds(t, b, other, r)
			} else {
				finds(t, b, other, nil)
			}
		}
	}
}

// 28.1: a call is found as well when it ended; so is its record dropped.
func TestFindEnded(t *testing.T) {
	for _, how := range numbers {
		b := record.New(2)
		r := of(7, 3, 4)
		puts(t, b, r, true)
		r.How = how
		finds(t, b, 7, r)
		has(t, b, true, 7)
		drops(t, b, 7, true)
		finds(t, b, 7, nil)
	}
}

// 28.1: a slot's turn is found by both of its numbers, at all of their edges.
func TestLive(t *testing.T) {
	for _, slot := range numbers {
		for _, gen := range numbers {
			b := record.New(2)
			r := of(7, slot, gen)
			puts(t, b, r, true)
			lives(t, b, slot, gen, r)
			for _, other := range numbers {
				if other != slot {
					lives(t, b, other, gen, nil)
				}
				if other != gen {
					lives(t, b, slot, other, nil)
				}
			}
		}
	}
}

// 28.1: only what goes on lives: of each other end there is none.
func TestLiveEnds(t *testing.T) {
	for _, how := range numbers {
		b := record.New(2)
		r := of(7, 3, 4)
		r.How = how
		puts(t, b, r, true)
		if how == api.EndNone {
			lives(t, b, 3, 4, r)
		} else {
			lives(t, b, 3, 4, nil)
		}
	}
}

// 28.1: what goes on is told by the record as it is now, not as it was when it was laid.
func TestLiveLater(t *testing.T) {
	b := record.New(2)
	r := of(7, 3, 4)
	puts(t, b, r, true)
	lives(t, b, 3, 4, r)
	for how := api.EndReply; how <= api.EndFailed; how++ {
		r.How = how
		lives(t, b, 3, 4, nil)
	}
	r.How = api.EndNone
	lives(t, b, 3, 4, r)
	r.F.Slot, r.F.Gen = 5, 6
	lives(t, b, 3, 4, nil)
	lives(t, b, 5, 6, r)
}

// 28.1: what ended stands in no one's way: of a slot's turns the one that goes on is found behind those that ended.
func TestLiveBehind(t *testing.T) {
	b := record.New(4)
	elder, ended, next := of(1, 3, 4), of(2, 3, 5), of(3, 3, 5)
	ended.How = api.EndTimeout
	puts(t, b, elder, true)
	puts(t, b, ended, true)
	puts(t, b, next, true)
	lives(t, b, 3, 4, elder)
	lives(t, b, 3, 5, next)
	lives(t, b, 3, 6, nil)
	lives(t, b, 4, 5, nil)
	drops(t, b, 3, true)
	lives(t, b, 3, 5, nil)
	finds(t, b, 2, ended)
}

// 28.1: where two go on in one slot's turn, the one that came first is told; the other one, when that went.
func TestLiveTwo(t *testing.T) {
	b := record.New(4)
	first, second := of(9, 3, 4), of(1, 3, 4)
	puts(t, b, first, true)
	puts(t, b, second, true)
	lives(t, b, 3, 4, first)
	drops(t, b, 9, true)
	lives(t, b, 3, 4, second)
}

// 28.1: each record of a full book is dropped alone; it goes once, and all others stay in their order.
func TestDrop(t *testing.T) {
	for gone := range uint32(most) {
		b, all := filled(t, most)
		drops(t, b, gone, true)
		var want []uint32
		for n, r := range all {
			if uint32(n) == gone {
				finds(t, b, gone, nil)
				lives(t, b, n, 1, nil)
				continue
			}
			want = append(want, uint32(n))
			finds(t, b, uint32(n), r)
			lives(t, b, n, 1, r)
		}
		has(t, b, true, want...)
		drops(t, b, gone, false)
		has(t, b, true, want...)
	}
}

// 28.1: what there is not is not dropped.
func TestDropNone(t *testing.T) {
	b := record.New(2)
	for _, call := range calls {
		drops(t, b, call, false)
	}
	puts(t, b, of(5, 3, 4), true)
	for _, call := range calls {
		drops(t, b, call, false)
	}
	has(t, b, true, 5)
	drops(t, b, 5, true)
	drops(t, b, 5, false)
	has(t, b, true)
}

// 28.1: a call that was dropped may be laid again; it comes last then.
func TestDropAndPut(t *testing.T) {
	b, all := filled(t, 3)
	drops(t, b, 0, true)
	puts(t, b, all[0], true)
	has(t, b, false, 1, 2, 0)
	drops(t, b, 2, true)
	other := of(2, 8, 9)
	puts(t, b, other, true)
	has(t, b, false, 1, 0, 2)
	finds(t, b, 2, other)
}

// 28.1: all calls are told in the order in which they came, not in that of their numbers, be they ended or not.
func TestOrder(t *testing.T) {
	b := record.New(most)
	var want []uint32
	for n, call := range []uint32{9, 3, math.MaxUint32, 0, 5, 1 << 31} {
		r := of(call, 9-n, 1)
		r.How = n
		puts(t, b, r, true)
		want = append(want, call)
		has(t, b, true, want...)
	}
}

// 28.1: records are the things themselves: what is done to what was handed in is done there, and what is found is it.
func TestThemselves(t *testing.T) {
	b := record.New(2)
	r := of(7, 3, 4)
	puts(t, b, r, true)
	r.Value, r.Owes = 8, true
	b.Find(7).Sent = true
	b.Live(3, 4).Sending = true
	b.Find(7).Credit = credit.New(2)
	if !r.Sent || !r.Sending || r.Credit != credit.New(2) || b.Find(7).Value != 8 || !b.Live(3, 4).Owes {
		t.Errorf("the record is %+v", r)
	}
	r.F.Call = 9
	finds(t, b, 7, nil)
	finds(t, b, 9, r)
	has(t, b, true, 9)
	puts(t, b, of(9, 0, 0), false)
	puts(t, b, of(7, 0, 0), true)
}

// 28.1: a record is not changed by being laid, found, or dropped.
func TestUnchanged(t *testing.T) {
	f := api.Frame{Kind: 1, Client: 2, Service: 3, Slot: 4, Gen: 5, Call: 6, Try: 7, Sure: true, Stream: true, Seq: 8, Value: 9}
	r := record.Record{
		F: f, End: 10, Value: 11, Tries: attempt.New(f, 10, api.Hedges{}), Credit: credit.New(3), Chunks: chunks.New(), Sending: true, Sent: true, Owes: true,
	}
	for _, how := range numbers {
		r.How = how
		was, b := r, record.New(2)
		puts(t, b, &r, true)
		puts(t, b, &r, false)
		finds(t, b, 6, &r)
		b.Live(4, 5)
		b.All()
		drops(t, b, 6, true)
		if r != was {
			t.Fatalf("the record is %+v, not %+v", r, was)
		}
	}
}

// 28.1: what All answers is the caller's own.
func TestOwn(t *testing.T) {
	b, _ := filled(t, 3)
	got := b.All()
	got[0], got[1], got[2] = 7, 8, 9
	_ = append(got[:1], 6)
	has(t, b, false, 0, 1, 2)
	before := b.All()
	drops(t, b, 0, true)
	puts(t, b, of(5, 0, 0), true)
	if !slices.Equal(before, []uint32{0, 1, 2}) {
		t.Errorf("what was told changed to %d", before)
	}
}

// 28.1: two books have nothing in common but the records that both were handed.
func TestTwoBooks(t *testing.T) {
	one, two := record.New(2), record.New(2)
	r := of(1, 3, 4)
	puts(t, one, r, true)
	has(t, two, true)
	puts(t, two, r, true)
	drops(t, one, 1, true)
	has(t, one, true)
	finds(t, two, 1, r)
}

// 28.1: none, and a plain one, have nothing, and no room.
func TestNone(t *testing.T) {
	var none *record.Book
	for _, b := range []*record.Book{none, {}} {
		for _, call := range calls {
			puts(t, b, of(call, 0, 0), false)
			puts(t, b, nil, false)
			finds(t, b, call, nil)
			drops(t, b, call, false)
		}
		for _, n := range numbers {
			lives(t, b, n, n, nil)
		}
		has(t, b, false)
	}
}

// do does one of so many things with both books: it lays, ends, drops, or lays what ended.
func do(t *testing.T, b *record.Book, p *plain, what int, call uint32, slot, gen int) {
	t.Helper()
	switch what {
	case 0, 1:
		r := of(call, slot, gen)
		r.How = what * api.EndCancelled
		puts(t, b, r, p.put(r))
	case 2:
		drops(t, b, call, p.drop(call))
	case 3:
		if r := p.find(call); r != nil {
			r.How = api.EndReply
		}
	}
}

// 28.1: each order of five things, with two calls in one slot, and rooms for one and for two, comes to what plain lists come to.
func TestOrders(t *testing.T) {
	const kinds = 8 // four things, with each of two calls
	for room := 1; room <= 2; room++ {
		for order := range kinds * kinds * kinds * kinds * kinds {
			b, p := record.New(room), &plain{room: room}
			for range 5 {
				call := uint32(order % 2)
				do(t, b, p, order/2%4, call, 0, 0)
				order /= kinds
			}
			same(t, b, p, 2, 1, 1)
		}
	}
}

// 28.1: long runs, drawn by a rule, come to what plain lists come to, step by step.
func TestRuns(t *testing.T) {
	for seed := range uint64(40) {
		room := int(seed) % (most + 2)
		b, p := record.New(room), &plain{room: nearest(room, 0, most)}
		draw := func(n uint64) int {
			seed = seed*6364136223846793005 + 1442695040888963407
			return int(seed >> 33 % n)
		}
		for range 500 {
			do(t, b, p, draw(4), uint32(draw(48)), draw(4), draw(3))
			same(t, b, p, 48, 4, 3)
		}
	}
}
