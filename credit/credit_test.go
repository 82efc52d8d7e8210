package credit_test

import (
	"math"
	"testing"

	"cableway/api"
	"cableway/credit"
)

const most = 16 // as the chapter's given limit is

// numbers are windows, and how many are granted, also what may not be.
var numbers = []int{
	math.MinInt, math.MinInt + 1, math.MinInt64 / 2, math.MinInt32, -1 << 32, -100, -most - 1, -most, -most + 1, -2, -1, 0, 1, 2, 3, 7, 8, 9,
	most - 2, most - 1, most, most + 1, most + 2, 2 * most, 100, 1 << 16, math.MaxInt32, 1 << 32, 1<<32 + 1, math.MaxInt / 2, math.MaxInt - 1, math.MaxInt,
}

// nearest is the number from one on up to the limit that counts for n, case by case.
func nearest(n, from int) int {
	switch {
	case n < from:
		return from
	case n > most:
		return most
	}
	return n
}

// granted is a client's stream, chunk by chunk: whether it was taken.
type granted struct {
	window int
	chunks []bool
}

// open is how many of its chunks were not taken.
func (p *granted) open() int {
	n := 0
	for _, taken := range p.chunks {
		if !taken {
			n++
		}
	}
	return n
}

// grant grants one behind the other, till so many are, or the window is full.
func (p *granted) grant(n int) int {
	count := 0
	for count < n && p.open() < p.window {
		p.chunks = append(p.chunks, false)
		count++
	}
	return count
}

// take takes the first that was not taken.
func (p *granted) take() bool {
	for i, taken := range p.chunks {
		if !taken {
			p.chunks[i] = true
			return true
		}
	}
	return false
}

// counted fails where a client granted, or took, other ones.
func counted(t *testing.T, c credit.Client, all, taken int) {
	t.Helper()
	got, want := [3]int{c.Out(), c.Granted(), c.Taken()}, [3]int{all - taken, all, taken}
	if got != want {
		t.Fatalf("out, granted, taken: %v, not %v", got, want)
	}
}

// grants is the client behind a Grant; it fails where another number is granted.
func grants(t *testing.T, c credit.Client, n, want int) credit.Client {
	t.Helper()
	next, got := c.Grant(n)
	if got != want {
		t.Fatalf("Grant(%d): %d, not %d", n, got, want)
	}
	return next
}

// takes is the client behind so many Takes; it fails where one is false.
func takes(t *testing.T, c credit.Client, times int) credit.Client {
	t.Helper()
	for range times {
		next, ok := c.Take()
		if !ok {
			t.Fatal("Take: false")
		}
		c = next
	}
	return c
}

// refuses fails where one can be taken, or something changes.
func refuses(t *testing.T, c credit.Client) {
	t.Helper()
	if next, ok := c.Take(); ok || next != c {
		t.Fatalf("Take: %+v, %v", next, ok)
	}
}

// held fails where a server may send, or sent, other ones.
func held(t *testing.T, s credit.Server, left, sent int) {
	t.Helper()
	got, want := [2]int{s.Left(), s.Sent()}, [2]int{left, sent}
	if got != want {
		t.Fatalf("left, sent: %v, not %v", got, want)
	}
}

// sends is the server behind the sending of these; it fails where others are sent, or none.
func sends(t *testing.T, s credit.Server, which ...int) credit.Server {
	t.Helper()
	for _, want := range which {
		next, got, ok := s.Send()
		if !ok || got != want {
			t.Fatalf("Send: %d, %v, not %d", got, ok, want)
		}
		s = next
	}
	return s
}

// stops fails where one can be sent, or something changes.
func stops(t *testing.T, s credit.Server) {
	t.Helper()
	if next, got, ok := s.Send(); ok || got != 0 || next != s {
		t.Fatalf("Send: %+v, %d, %v", next, got, ok)
	}
}

// drawing draws numbers by a rule.
func drawing() func(n int) int {
	seed := uint64(1)
	return func(n int) int {
		seed = seed*6364136223846793005 + 1442695040888963407
		return int(seed >> 33 % uint64(n))
	}
}

// 21.1: the document's example.
func TestExample(t *testing.T) {
	if api.MostWindow != most {
		t.Fatal("the limit is another one")
	}
	c := grants(t, credit.New(2), 5, 2)
	counted(t, c, 2, 0)
}

// 21.1: a window is from 1 to MostWindow; what is beyond counts as the nearest.
func TestWindow(t *testing.T) {
	for _, n := range numbers {
		if got, want := credit.Window(n), nearest(n, 1); got != want {
			t.Errorf("Window(%d): %d, not %d", n, got, want)
		}
	}
	for n := -3 * most; n <= 3*most; n++ {
		if got, want := credit.Window(n), nearest(n, 1); got != want {
			t.Errorf("Window(%d): %d, not %d", n, got, want)
		}
	}
}

// 21.1: of a new one nothing is granted, whatever its window; and it is Window that tells how wide that is.
func TestNew(t *testing.T) {
	for _, window := range numbers {
		c := credit.New(window)
		counted(t, c, 0, 0)
		refuses(t, c)
		if c != credit.New(nearest(window, 1)) {
			t.Errorf("New(%d) is not as one of the nearest window", window)
		}
		c = grants(t, c, math.MaxInt, nearest(window, 1))
		counted(t, c, nearest(window, 1), 0)
	}
}

// 21.1: as many are granted as there is room for in the window, of each window, from each standing on.
func TestGrant(t *testing.T) {
	for window := 1; window <= most; window++ {
		for first := range window + 1 {
			for taken := range first + 1 {
				c := takes(t, grants(t, credit.New(window), first, first), taken)
				room := window - (first - taken)
				for n := range 2 * most {
					counted(t, grants(t, c, n, min(n, room)), first+min(n, room), taken)
				}
				for _, n := range numbers {
					want := min(max(n, 0), room)
					counted(t, grants(t, c, n, want), first+want, taken)
				}
			}
		}
	}
}

// 21.1: what is granted in parts is as much as the window, too; a full one grants nothing till one is taken.
func TestGrantFull(t *testing.T) {
	c := credit.New(5)
	c = grants(t, c, 2, 2)
	c = grants(t, c, 2, 2)
	c = grants(t, c, 2, 1)
	for _, n := range numbers {
		c = grants(t, c, n, 0)
		counted(t, c, 5, 0)
	}
	c = takes(t, c, 1)
	counted(t, c, 5, 1)
	c = grants(t, c, 3, 1)
	counted(t, c, 6, 1)
	c = takes(t, c, 4)
	c = grants(t, c, 3, 3)
	c = grants(t, c, 3, 1)
	counted(t, c, 10, 5)
}

// 21.1: what is below 0 grants nothing, and takes nothing back.
func TestGrantBelow(t *testing.T) {
	c := takes(t, grants(t, credit.New(4), 3, 3), 1)
	for _, n := range []int{math.MinInt, math.MinInt + 1, math.MinInt32, -most, -4, -3, -2, -1, 0} {
		c = grants(t, c, n, 0)
		counted(t, c, 3, 1)
	}
	grants(t, c, most, 2)
}

// 21.1: what is granted can be taken, and no more; what is refused changes nothing.
func TestTake(t *testing.T) {
	for window := 1; window <= most; window++ {
		c := credit.New(window)
		refuses(t, c)
		for part := 1; part <= window; part++ {
			was := c.Granted()
			c = grants(t, c, part, part)
			c = takes(t, c, part)
			counted(t, c, was+part, was+part)
			for range 3 {
				refuses(t, c)
			}
			c, _ = c.Take()
			counted(t, c, was+part, was+part)
		}
	}
}

// 21.1: over a long stream all are counted, and none is forgotten.
func TestLong(t *testing.T) {
	c := grants(t, credit.New(3), 3, 3)
	for i := range 1 << 20 {
		c, _ = c.Take()
		c, _ = c.Grant(1)
		if c.Out() != 3 || c.Taken() != i+1 {
			t.Fatalf("%d: %d out, %d taken", i, c.Out(), c.Taken())
		}
	}
	counted(t, c, 1<<20+3, 1<<20)
}

// call does one of the calls that change something: Take, or a Grant of so many.
func call(t *testing.T, c credit.Client, p *granted, n int) credit.Client {
	t.Helper()
	if n < 0 {
		next, ok := c.Take()
		if want := p.take(); ok != want {
			t.Fatalf("Take: %v, not %v", ok, want)
		}
		return next
	}
	return grants(t, c, n, p.grant(n))
}

// same fails where a client stands otherwise than the plain one.
func same(t *testing.T, c credit.Client, p *granted) {
	t.Helper()
	counted(t, c, len(p.chunks), len(p.chunks)-p.open())
	if c.Out() > p.window {
		t.Fatalf("%d out of a window of %d", c.Out(), p.window)
	}
}

// 21.1: each order of six calls, against a stream chunk by chunk.
func TestAllOrders(t *testing.T) {
	const kinds, length = 5, 6
	orders := 1
	for range length {
		orders *= kinds
	}
	for _, window := range []int{-1, 0, 1, 2, 3, 4} {
		for order := range orders {
			c, p := credit.New(window), &granted{window: nearest(window, 1)}
			rest := order
			for range length {
				c = call(t, c, p, rest%kinds-1)
				same(t, c, p)
				rest /= kinds
			}
		}
	}
}

// 21.1: long runs, drawn by a rule, against a stream chunk by chunk.
func TestDrawn(t *testing.T) {
	draw := drawing()
	for range 200 {
		window := draw(most+8) - 4
		c, p := credit.New(window), &granted{window: nearest(window, 1)}
		// More is granted than taken, or less: so it is often full, or empty.
		part := 1 + draw(9)
		for range 300 {
			n := -1
			if draw(10) < part {
				n = draw(most)
			}
			c = call(t, c, p, n)
			same(t, c, p)
		}
	}
}

// 21.1: a client is a value: what is done with the one behind a call does nothing to the one ahead of it.
func TestClientIsValue(t *testing.T) {
	first := credit.New(3)
	second := grants(t, first, 2, 2)
	third := takes(t, second, 1)
	counted(t, first, 0, 0)
	counted(t, second, 2, 0)
	counted(t, third, 2, 1)
	grants(t, third, 9, 2)
	takes(t, third, 1)
	counted(t, third, 2, 1)
	grants(t, second, 9, 1)
	takes(t, second, 2)
	counted(t, second, 2, 0)
	refuses(t, first)
	if again := takes(t, grants(t, credit.New(3), 2, 2), 1); again != third {
		t.Errorf("%+v is not %+v", again, third)
	}
}

// 21.1: a plain client grants nothing.
func TestPlainClient(t *testing.T) {
	var c credit.Client
	for _, n := range numbers {
		c = grants(t, c, n, 0)
		counted(t, c, 0, 0)
		refuses(t, c)
	}
}

// 21.2: a plain server may send none.
func TestPlainServer(t *testing.T) {
	var s credit.Server
	for range 3 {
		held(t, s, 0, 0)
		stops(t, s)
		s, _, _ = s.Send()
	}
}

// 21.2: so many more may be sent, from 0 to MostWindow; what is beyond counts as the nearest.
func TestMore(t *testing.T) {
	for _, n := range numbers {
		want := nearest(n, 0)
		s := credit.Server{}.More(n)
		held(t, s, want, 0)
		for i := range want {
			s = sends(t, s, i)
			held(t, s, want-i-1, i+1)
		}
		stops(t, s)
		held(t, s, 0, want)
	}
	for n := -2 * most; n <= 3*most; n++ {
		held(t, credit.Server{}.More(n), nearest(n, 0), 0)
	}
}

// 21.2: it is put to what may be sent already, also where that is more than MostWindow then; what is below 0 takes nothing back.
func TestMoreOften(t *testing.T) {
	s := credit.Server{}.More(1).More(2)
	held(t, s, 3, 0)
	s = sends(t, s, 0)
	held(t, s.More(0), 2, 1)
	held(t, s.More(-1), 2, 1)
	held(t, s.More(math.MinInt), 2, 1)
	s = s.More(most)
	held(t, s, most+2, 1)
	s = s.More(most + 1).More(math.MaxInt)
	held(t, s, 3*most+2, 1)
	for i := range 3*most + 2 {
		s = sends(t, s, i+1)
	}
	held(t, s, 0, 3*most+3)
	stops(t, s)
}

// 21.2: which one is sent goes on from where it was, also behind a sending that was refused.
func TestSend(t *testing.T) {
	s := sends(t, credit.Server{}.More(2), 0, 1)
	for range 3 {
		stops(t, s)
		s, _, _ = s.Send()
		held(t, s, 0, 2)
	}
	s = sends(t, s.More(3), 2, 3)
	held(t, s, 1, 4)
	s = sends(t, s.More(1), 4, 5)
	held(t, s, 0, 6)
	stops(t, s)
}

// 21.2: each order of seven calls, against a count by hand.
func TestServerAllOrders(t *testing.T) {
	const length = 7
	kinds := []int{math.MinInt, -1, 0, 1, 3} // -1: Send; else More
	orders := 1
	for range length {
		orders *= len(kinds)
	}
	for order := range orders {
		s := credit.Server{}
		left, sent := 0, 0
		rest := order
		for range length {
			n := kinds[rest%len(kinds)]
			rest /= len(kinds)
			switch {
			case n != -1:
				s = s.More(n)
				left += nearest(n, 0)
			case left == 0:
				stops(t, s)
				s, _, _ = s.Send()
			default:
				s = sends(t, s, sent)
				left, sent = left-1, sent+1
			}
			held(t, s, left, sent)
		}
	}
}

// 21.2: long runs, drawn by a rule: each that may be sent is sent, one behind the other, and no more.
func TestServerDrawn(t *testing.T) {
	draw := drawing()
	for range 200 {
		s := credit.Server{}
		may, sent := 0, 0
		part := 1 + draw(9)
		for range 300 {
			switch {
			case draw(40) < part:
				n := draw(2*most) - most/2
				s = s.More(n)
				may += nearest(n, 0)
			case sent == may:
				stops(t, s)
				s, _, _ = s.Send()
			default:
				s = sends(t, s, sent)
				sent++
			}
			held(t, s, may-sent, sent)
		}
	}
}

// 21.2: a server is a value: what is done with the one behind a call does nothing to the one ahead of it.
func TestServerIsValue(t *testing.T) {
	first := credit.Server{}
	second := first.More(2)
	third := sends(t, second, 0)
	second.More(5)
	sends(t, second, 0, 1)
	sends(t, third.More(1), 1, 2)
	held(t, first, 0, 0)
	held(t, second, 2, 0)
	held(t, third, 1, 1)
	stops(t, first)
	if again := sends(t, credit.Server{}.More(2), 0); again != third {
		t.Errorf("%+v is not %+v", again, third)
	}
}

// 21.1 and 21.2: what a client grants, its server is told of later, and its chunks come later: what may be sent, and was not taken, is never more than the window, and all that is granted can be sent.
func TestBoth(t *testing.T) {
	draw := drawing()
	for window := 1; window <= most; window++ {
		c, s := credit.New(window), credit.Server{}
		told, came := 0, 0
		for range 3000 {
			switch draw(4) {
			case 0:
				c, _ = c.Grant(draw(most))
			case 1:
				n := min(c.Granted()-told, 1+draw(most))
				s = s.More(n)
				told += n
			case 2:
				next, which, ok := s.Send()
				if ok != (came < told) || ok && which != came {
					t.Fatalf("Send: %d, %v; %d of %d came", which, ok, came, told)
				}
				s = next
				came = s.Sent()
			case 3:
				if c.Taken() < came {
					c = takes(t, c, 1)
				}
			}
			if s.Left()+s.Sent()-c.Taken() > window || c.Out() > window {
				t.Fatalf("a window of %d: %d left, %d sent, %d taken, %d out", window, s.Left(), s.Sent(), c.Taken(), c.Out())
			}
		}
		if came == 0 || c.Taken() == 0 {
			t.Fatalf("a window of %d: nothing went", window)
		}
	}
}
