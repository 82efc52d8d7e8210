package dedup_test

import (
	"math"
	"testing"

	"cableway/api"
	"cableway/dedup"
)

const most = 64 // as the chapter's given limit is
const tries = 16

// numbers are numbers of calls, tries and clients, also what may not be.
var numbers = []int{
	math.MinInt, math.MinInt + 1, math.MinInt / 2, math.MinInt32, -1 << 32, -1<<32 + 1, -256, -100, -most, -17, -16, -15, -2, -1, 0, 1, 2, 3, 14, 15, 16, 17, 31, 32,
	most - 2, most - 1, most, most + 1, 2 * most, 100, 255, 256, 1 << 16, math.MaxInt32, 1 << 32, 1<<32 + 1, math.MaxInt / 2, math.MaxInt - 1, math.MaxInt,
}

// known is what a plain cache knows of a call: each try that was met, in order, and all that was noted.
type known struct {
	client int
	call   uint32
	met    []int
	runs   int
	noted  []noted
}

type noted struct {
	ok bool
	v  uint32
}

// plain is a cache as a list.
type plain struct {
	room int
	list []*known
}

// find is what is known of a frame's call; nil: nothing.
func (p *plain) find(f api.Frame) *known {
	for _, k := range p.list {
		if k.client == f.Client && k.call == f.Call {
			return k
		}
	}
	return nil
}

// meet meets a request, asking one thing behind the other, in the order in which the chapter names them.
func (p *plain) meet(f api.Frame) int {
	if f.Try < 0 || f.Try >= tries {
		return api.DedupFull
	}
	k := p.find(f)
	if k == nil && len(p.list) >= p.room {
		return api.DedupFull
	}
	if k == nil {
		p.list = append(p.list, &known{client: f.Client, call: f.Call, met: []int{f.Try}, runs: 1})
		return api.DedupFresh
	}
	for _, try := range k.met {
		if try == f.Try {
			return api.DedupSeen
		}
	}
	k.met = append(k.met, f.Try)
	if !f.Sure {
		k.runs++
		return api.DedupFresh
	}
	if len(k.noted) > 0 {
		return api.DedupAgain
	}
	return api.DedupWaits
}

// done notes what became of a call.
func (p *plain) done(f api.Frame, ok bool, v uint32) {
	if k := p.find(f); k != nil {
		k.noted = append(k.noted, noted{ok, v})
	}
}

// value is what was noted first.
func (p *plain) value(f api.Frame) (uint32, bool, bool) {
	k := p.find(f)
	if k == nil || len(k.noted) == 0 {
		return 0, false, false
	}
	return k.noted[0].v, k.noted[0].ok, true
}

// ack lets a call go.
func (p *plain) ack(f api.Frame) bool {
	for i, k := range p.list {
		if k.client == f.Client && k.call == f.Call {
			p.list = append(append([]*known{}, p.list[:i]...), p.list[i+1:]...)
			return true
		}
	}
	return false
}

// runs is how often it was begun.
func (p *plain) runs(f api.Frame) int {
	if k := p.find(f); k != nil {
		return k.runs
	}
	return 0
}

// request is a request of a client's call.
func request(client int, call uint32, try int, sure bool) api.Frame {
	return api.Frame{Kind: api.KindRequest, Client: client, Call: call, Try: try, Sure: sure}
}

// meets fails where something else becomes of a request.
func meets(t *testing.T, c *dedup.Cache, f api.Frame, want int) {
	t.Helper()
	if got := c.Meet(f); got != want {
		t.Fatalf("Meet(%+v): %d, not %d", f, got, want)
	}
}

// valued fails where something else became of a call.
func valued(t *testing.T, c *dedup.Cache, f api.Frame, v uint32, ok, done bool) {
	t.Helper()
	if gv, gok, gdone := c.Value(f); gv != v || gok != ok || gdone != done {
		t.Fatalf("Value(%+v): %d, %v, %v, not %d, %v, %v", f, gv, gok, gdone, v, ok, done)
	}
}

// runs fails where a call was begun otherwise than so often.
func runs(t *testing.T, c *dedup.Cache, f api.Frame, want int) {
	t.Helper()
	if got := c.Runs(f); got != want {
		t.Fatalf("Runs(%+v): %d, not %d", f, got, want)
	}
}

// has fails where there are not so many calls.
func has(t *testing.T, c *dedup.Cache, want int) {
	t.Helper()
	if got := c.Len(); got != want {
		t.Fatalf("Len: %d, not %d", got, want)
	}
}

// acks fails where a call goes that is to stay, or not there, or the other way round.
func acks(t *testing.T, c *dedup.Cache, f api.Frame, want bool) {
	t.Helper()
	if got := c.Ack(f); got != want {
		t.Fatalf("Ack(%+v): %v", f, got)
	}
}

// with is a cache of so much room that met so many sure calls of client 1, from 0 on, by their try 0.
func with(t *testing.T, room, calls int) *dedup.Cache {
	t.Helper()
	c := dedup.New(room)
	for i := range calls {
		meets(t, c, request(1, uint32(i), 0, true), api.DedupFresh)
	}
	has(t, c, calls)
	return c
}

// drawing draws numbers by a rule.
func drawing() func(n int) int {
	seed := uint64(1)
	return func(n int) int {
		seed = seed*6364136223846793005 + 1442695040888963407
		return int(seed >> 33 % uint64(n))
	}
}

// 23.1: the document's example, and its limits.
func TestExample(t *testing.T) {
	if api.MostEntries != most || api.MostTry+1 != tries {
		t.Fatal("a limit is another one")
	}
	for _, sure := range []bool{false, true} {
		c := dedup.New(1)
		meets(t, c, request(0, 1, 0, sure), api.DedupFresh)
		meets(t, c, request(0, 1, 0, sure), api.DedupSeen)
	}
}

// 23.1: there is room for as many as is told, from 0 to MostEntries.
func TestRoom(t *testing.T) {
	for _, room := range append(numbers, 4, 5, 10, 50) {
		want := room
		if want < 0 {
			want = 0
		}
		if want > most {
			want = most
		}
		c := dedup.New(room)
		if c == nil {
			t.Fatalf("New(%d): none", room)
		}
		has(t, c, 0)
		for i := range want {
			meets(t, c, request(1, uint32(i), 0, false), api.DedupFresh)
			has(t, c, i+1)
		}
		for i := range 3 {
			f := request(1, uint32(want+i), i, i == 1)
			meets(t, c, f, api.DedupFull)
			has(t, c, want)
			runs(t, c, f, 0)
			valued(t, c, f, 0, false, false)
			acks(t, c, f, false)
		}
	}
}

// 23.1: a new one knows nothing; two new ones are two.
func TestNew(t *testing.T) {
	c, d := dedup.New(2), dedup.New(2)
	f := request(0, 0, 0, false)
	valued(t, c, f, 0, false, false)
	runs(t, c, f, 0)
	acks(t, c, f, false)
	meets(t, c, f, api.DedupFresh)
	has(t, d, 0)
	runs(t, d, f, 0)
	meets(t, d, f, api.DedupFresh)
	acks(t, c, f, true)
	has(t, d, 1)
}

// 23.1: a full one still meets the calls that are there.
func TestFullMeetsKnown(t *testing.T) {
	for _, room := range []int{1, 2, 3, most} {
		c := with(t, room, room)
		c.Done(request(1, 0, 0, true), true, 7)
		meets(t, c, request(1, 0, 1, true), api.DedupAgain)
		meets(t, c, request(1, 0, 0, true), api.DedupSeen)
		meets(t, c, request(1, uint32(room), 0, true), api.DedupFull)
		last := uint32(room - 1)
		if room > 1 {
			meets(t, c, request(1, last, 1, true), api.DedupWaits)
		}
		meets(t, c, request(1, last, 2, false), api.DedupFresh)
		runs(t, c, request(1, last, 0, true), 2)
		has(t, c, room)
	}
}

// 23.1: one that goes makes room for one; who was refused is met then, by the same try.
func TestRoomAgain(t *testing.T) {
	c := with(t, 2, 2)
	f := request(2, 9, 3, true)
	meets(t, c, f, api.DedupFull)
	meets(t, c, f, api.DedupFull)
	acks(t, c, request(1, 0, 0, true), true)
	meets(t, c, f, api.DedupFresh)
	meets(t, c, f, api.DedupSeen)
	meets(t, c, request(1, 0, 0, true), api.DedupFull)
	has(t, c, 2)
}

// 23.1: a try that may not be is refused, of a call that is there as of one that is not, and changes nothing.
func TestTries(t *testing.T) {
	for _, try := range numbers {
		for _, sure := range []bool{false, true} {
			c := dedup.New(2)
			f := request(1, 2, try, sure)
			if try < 0 || try >= tries {
				meets(t, c, f, api.DedupFull)
				has(t, c, 0)
				runs(t, c, f, 0)
				meets(t, c, request(1, 2, 0, sure), api.DedupFresh)
				meets(t, c, f, api.DedupFull)
				meets(t, c, f, api.DedupFull)
				runs(t, c, f, 1)
				has(t, c, 1)
				continue
			}
			meets(t, c, f, api.DedupFresh)
			meets(t, c, f, api.DedupSeen)
			runs(t, c, f, 1)
			has(t, c, 1)
		}
	}
}

// 23.1: of a call that is not sure each try is fresh once, done or not.
func TestNotSure(t *testing.T) {
	for _, when := range []int{0, 1, 5, 15, tries} {
		c := dedup.New(1)
		for i := range tries {
			if i == when {
				c.Done(request(3, 4, 0, false), true, 5)
			}
			try := (i*7 + 3) % tries
			f := request(3, 4, try, false)
			meets(t, c, f, api.DedupFresh)
			meets(t, c, f, api.DedupSeen)
			runs(t, c, f, i+1)
			has(t, c, 1)
		}
		for try := range tries {
			meets(t, c, request(3, 4, try, false), api.DedupSeen)
		}
		runs(t, c, request(3, 4, 0, false), tries)
	}
}

// 23.1: of a sure call one try is fresh; the others wait till it is done, then are told again; each once.
func TestSure(t *testing.T) {
	for first := range tries {
		for when := range tries {
			c := dedup.New(1)
			of := request(3, 4, first, true)
			meets(t, c, of, api.DedupFresh)
			for i := 1; i < tries; i++ {
				want := api.DedupWaits
				if i >= when {
					c.Done(of, when%2 == 0, uint32(i))
					want = api.DedupAgain
				}
				f := request(3, 4, (first+i)%tries, true)
				meets(t, c, f, want)
				meets(t, c, f, api.DedupSeen)
				runs(t, c, f, 1)
			}
			meets(t, c, of, api.DedupSeen)
			has(t, c, 1)
		}
	}
}

// 23.1: one that is done badly is done, too.
func TestSureFailed(t *testing.T) {
	c := dedup.New(1)
	meets(t, c, request(0, 1, 0, true), api.DedupFresh)
	c.Done(request(0, 1, 0, true), false, 0)
	meets(t, c, request(0, 1, 1, true), api.DedupAgain)
	valued(t, c, request(0, 1, 1, true), 0, false, true)
	runs(t, c, request(0, 1, 1, true), 1)
}

// 23.1: whether a call is sure, each request tells of itself.
func TestSureEach(t *testing.T) {
	c := dedup.New(1)
	meets(t, c, request(0, 1, 0, true), api.DedupFresh)
	meets(t, c, request(0, 1, 1, false), api.DedupFresh)
	meets(t, c, request(0, 1, 2, true), api.DedupWaits)
	c.Done(request(0, 1, 0, true), true, 3)
	meets(t, c, request(0, 1, 3, true), api.DedupAgain)
	meets(t, c, request(0, 1, 4, false), api.DedupFresh)
	meets(t, c, request(0, 1, 1, true), api.DedupSeen)
	meets(t, c, request(0, 1, 2, false), api.DedupSeen)
	runs(t, c, request(0, 1, 0, true), 3)
	c = dedup.New(1)
	meets(t, c, request(0, 1, 0, false), api.DedupFresh)
	meets(t, c, request(0, 1, 1, true), api.DedupWaits)
	runs(t, c, request(0, 1, 0, true), 1)
}

// 23.1: what became of a call first counts, whatever it was; what is told of calls that are not there is not kept.
func TestDone(t *testing.T) {
	values := []uint32{0, 1, 7, 1 << 31, math.MaxUint32}
	for _, v := range values {
		for _, w := range values {
			for what := range 4 {
				ok, again := what&1 != 0, what&2 != 0
				c := dedup.New(2)
				f := request(1, 5, 0, true)
				c.Done(f, again, w)
				valued(t, c, f, 0, false, false)
				has(t, c, 0)
				meets(t, c, f, api.DedupFresh)
				valued(t, c, f, 0, false, false)
				c.Done(f, ok, v)
				valued(t, c, f, v, ok, true)
				c.Done(f, again, w)
				c.Done(request(1, 5, 1, true), again, w)
				valued(t, c, f, v, ok, true)
				meets(t, c, request(1, 5, 1, true), api.DedupAgain)
				valued(t, c, f, v, ok, true)
				has(t, c, 1)
				runs(t, c, f, 1)
			}
		}
	}
}

// 23.1: one that is begun again, as it is not sure, keeps what became of it first.
func TestDoneThenFresh(t *testing.T) {
	c := dedup.New(1)
	meets(t, c, request(1, 5, 0, false), api.DedupFresh)
	c.Done(request(1, 5, 0, false), false, 2)
	meets(t, c, request(1, 5, 1, false), api.DedupFresh)
	valued(t, c, request(1, 5, 1, false), 2, false, true)
	c.Done(request(1, 5, 1, false), true, 8)
	valued(t, c, request(1, 5, 1, false), 2, false, true)
}

// 23.1: one that went is there no more, and all of it is forgotten.
func TestAck(t *testing.T) {
	for _, sure := range []bool{false, true} {
		for what := range 3 {
			c := dedup.New(2)
			f := request(1, 5, 2, sure)
			acks(t, c, f, false)
			meets(t, c, f, api.DedupFresh)
			meets(t, c, request(1, 6, 0, sure), api.DedupFresh)
			meets(t, c, request(1, 5, 3, false), api.DedupFresh)
			if what > 0 {
				c.Done(f, what == 1, 9)
			}
			acks(t, c, f, true)
			acks(t, c, f, false)
			has(t, c, 1)
			runs(t, c, f, 0)
			valued(t, c, f, 0, false, false)
			c.Done(f, true, 4)
			valued(t, c, f, 0, false, false)
			meets(t, c, f, api.DedupFresh)
			runs(t, c, f, 1)
			valued(t, c, f, 0, false, false)
			meets(t, c, request(1, 5, 3, false), api.DedupFresh)
			runs(t, c, f, 2)
			has(t, c, 2)
		}
	}
}

// 23.1: whichever of several goes, the others stay as they are.
func TestAckOthers(t *testing.T) {
	for n := 1; n <= 6; n++ {
		for gone := range n {
			c := with(t, n, n)
			for i := range n {
				f := request(1, uint32(i), 0, true)
				for range i {
					meets(t, c, request(1, uint32(i), c.Runs(f), false), api.DedupFresh)
				}
				if i%3 > 0 {
					c.Done(f, i%3 == 1, uint32(100+i))
				}
			}
			acks(t, c, request(1, uint32(gone), 0, true), true)
			has(t, c, n-1)
			for i := range n {
				f := request(1, uint32(i), 0, true)
				if i == gone {
					runs(t, c, f, 0)
					continue
				}
				runs(t, c, f, i+1)
				v := uint32(0)
				if i%3 > 0 {
					v = uint32(100 + i)
				}
				valued(t, c, f, v, i%3 == 1, i%3 > 0)
				for try := range i + 1 {
					meets(t, c, request(1, uint32(i), try, true), api.DedupSeen)
				}
			}
			meets(t, c, request(1, 99, 0, true), api.DedupFresh)
			meets(t, c, request(1, 100, 0, true), api.DedupFull)
		}
	}
}

// 23.1: a call is its client's number and its own: another client's is another one, whatever their numbers are.
func TestWhose(t *testing.T) {
	calls := []uint32{0, 1, 2, 1 << 16, 1 << 31, math.MaxUint32 - 1, math.MaxUint32}
	clients := []int{math.MinInt, -1 << 32, -1, 0, 1, 2, 3, 4, 1 << 32}
	c := dedup.New(most)
	for i, client := range clients {
		for j, call := range calls {
			f := request(client, call, 0, false)
			meets(t, c, f, api.DedupFresh)
			meets(t, c, request(client, call, 1, false), api.DedupFresh)
			c.Done(f, (i+j)%2 == 0, uint32(i*100+j))
			has(t, c, i*len(calls)+j+1)
		}
	}
	for i, client := range clients {
		for j, call := range calls {
			f := request(client, call, 0, true)
			meets(t, c, f, api.DedupSeen)
			meets(t, c, request(client, call, 1, true), api.DedupSeen)
			meets(t, c, request(client, call, 2, true), api.DedupAgain)
			runs(t, c, f, 2)
			valued(t, c, f, uint32(i*100+j), (i+j)%2 == 0, true)
		}
	}
	left := len(clients) * len(calls)
	for _, client := range clients {
		for _, call := range calls {
			acks(t, c, request(client, call, 0, false), true)
			left--
			has(t, c, left)
		}
	}
}

// 23.1: nothing else of a frame counts for whose call it is, also a try that may not be.
func TestWhoseAlone(t *testing.T) {
	others := []api.Frame{
		{Client: 1, Call: 5},
		{Kind: api.KindAck, Client: 1, Call: 5},
		{Kind: -1, Client: 1, Service: math.MaxInt, Slot: 3, Gen: -4, Call: 5, Try: -1, Stream: true, Seq: 6, Value: 7},
		{Kind: api.KindCancel, Client: 1, Service: 2, Slot: 99, Gen: api.MostGen + 1, Call: 5, Try: math.MaxInt, Sure: true, Seq: -1, Value: math.MaxUint32},
	}
	for _, g := range others {
		for _, h := range others {
			c := dedup.New(1)
			f := request(1, 5, 1, true)
			meets(t, c, f, api.DedupFresh)
			runs(t, c, g, 1)
			c.Done(g, true, 8)
			valued(t, c, h, 8, true, true)
			g.Try, g.Sure = 1, false
			meets(t, c, g, api.DedupSeen)
			h.Try, h.Sure = 2, true
			meets(t, c, h, api.DedupAgain)
			meets(t, c, request(1, 5, 2, false), api.DedupSeen)
			acks(t, c, h, true)
			acks(t, c, f, false)
			has(t, c, 0)
		}
	}
}

// 23.1: one may be met first by any of its tries, not by the try 0 alone; asking changes nothing.
func TestAsking(t *testing.T) {
	c := dedup.New(3)
	f := request(2, 3, 7, true)
	meets(t, c, f, api.DedupFresh)
	for range 3 {
		runs(t, c, f, 1)
		valued(t, c, f, 0, false, false)
		runs(t, c, request(2, 4, 0, true), 0)
		valued(t, c, request(2, 4, 0, true), 0, false, false)
		has(t, c, 1)
	}
	meets(t, c, request(2, 3, 0, true), api.DedupWaits)
}

// 23.1: of none, all is full and nothing.
func TestNone(t *testing.T) {
	var c *dedup.Cache
	for _, n := range numbers {
		for _, sure := range []bool{false, true} {
			f := request(n, uint32(n), n, sure)
			meets(t, c, f, api.DedupFull)
			c.Done(f, true, 3)
			valued(t, c, f, 0, false, false)
			acks(t, c, f, false)
			runs(t, c, f, 0)
			has(t, c, 0)
		}
	}
}

// 23.1: a plain one is one with no room.
func TestPlain(t *testing.T) {
	c := &dedup.Cache{}
	f := request(0, 1, 0, false)
	meets(t, c, f, api.DedupFull)
	c.Done(f, true, 3)
	valued(t, c, f, 0, false, false)
	acks(t, c, f, false)
	runs(t, c, f, 0)
	has(t, c, 0)
}

// same fails where a cache stands otherwise than the plain one, of some calls.
func same(t *testing.T, c *dedup.Cache, p *plain, clients, calls int) {
	t.Helper()
	has(t, c, len(p.list))
	if c.Len() > p.room {
		t.Fatalf("%d are kept, with room for %d", c.Len(), p.room)
	}
	for client := range clients {
		for call := range calls {
			f := request(client, uint32(call), 0, false)
			runs(t, c, f, p.runs(f))
			v, ok, done := p.value(f)
			valued(t, c, f, v, ok, done)
		}
	}
}

// 23.1: each order of five calls of two tries of two calls, against a list.
func TestAllOrders(t *testing.T) {
	const kinds, length = 10, 5
	orders := 1
	for range length {
		orders *= kinds
	}
	for room := 1; room <= 2; room++ {
		for order := range orders {
			c, p := dedup.New(room), &plain{room: room}
			for i, rest := 0, order; i < length; i, rest = i+1, rest/kinds {
				step(t, c, p, rest%kinds, i)
				same(t, c, p, 2, 1)
			}
		}
	}
}

// step does one of ten things: each of two calls is met by one of two tries, done or let go; and a sure one is not sure.
func step(t *testing.T, c *dedup.Cache, p *plain, what, i int) {
	t.Helper()
	f := request(what%2, 0, what/2%2, what < 6)
	switch {
	case what < 4, what >= 8:
		f.Try = what / 2 % 3
		meets(t, c, f, p.meet(f))
	case what < 6:
		c.Done(f, i%2 == 0, uint32(i+1))
		p.done(f, i%2 == 0, uint32(i+1))
	default:
		acks(t, c, f, p.ack(f))
	}
}

// 23.1: long runs drawn by a rule, against a list.
func TestLong(t *testing.T) {
	draw := drawing()
	for run := range 60 {
		room := []int{0, 1, 2, 3, 5, 8, 20, most}[run%8]
		clients, calls := 1+draw(4), 1+draw(25)
		c, p := dedup.New(room), &plain{room: room}
		for range 1500 {
			f := request(draw(clients), uint32(draw(calls)), draw(tries+2)-1, draw(2) == 0)
			switch what := draw(20); {
			case what < 14:
				meets(t, c, f, p.meet(f))
			case what < 17:
				ok, v := draw(2) == 0, uint32(draw(1<<31))
				c.Done(f, ok, v)
				p.done(f, ok, v)
			case what < 17+run%4:
				acks(t, c, f, p.ack(f))
			default:
				runs(t, c, f, p.runs(f))
				v, ok, done := p.value(f)
				valued(t, c, f, v, ok, done)
			}
			has(t, c, len(p.list))
		}
		same(t, c, p, clients, calls)
	}
}
