package chunks_test

import (
	"math"
	"testing"

	"cableway/api"
	"cableway/chunks"
)

const most = 64 // as the chapter's given limit is

// numbers are numbers of chunks, and of how many there are, also what may not be.
var numbers = []int{
	math.MinInt, math.MinInt + 1, math.MinInt64 / 2, math.MinInt32, -1 << 32, -100, -most - 1, -most, -most + 1, -2, -1, 0, 1, 2, 3, 4, 5, 7, 8,
	most - 2, most - 1, most, most + 1, most + 2, 2*most - 1, 2 * most, 2*most + 1, 100, 1 << 16, math.MaxInt32, 1 << 32, 1<<32 + 1, math.MaxInt / 2, math.MaxInt - 1, math.MaxInt,
}

// stream is a stream as two lists: all that came, and what of it was not read.
type stream struct {
	came  []uint32
	rest  []uint32
	ended bool
}

// put takes a chunk, asking for each error, in the order in which the chapter names them.
func (p *stream) put(seq int, v uint32) api.Errno {
	next := len(p.came)
	if seq < next {
		return api.ErrStale
	}
	if seq != next {
		return api.ErrForm
	}
	if p.ended {
		return api.ErrForm
	}
	if len(p.rest) >= most {
		return api.ErrFull
	}
	p.came = append(p.came, v)
	p.rest = append(p.rest, v)
	return api.OK
}

// end ends it with so many.
func (p *stream) end(n int) api.Errno {
	if n != len(p.came) {
		return api.ErrForm
	}
	p.ended = true
	return api.OK
}

// read takes the first that was not read.
func (p *stream) read() (uint32, bool) {
	if len(p.rest) == 0 {
		return 0, false
	}
	v := p.rest[0]
	p.rest = p.rest[1:]
	return v, true
}

// value is what the chunk of a number tells, here: no two near ones the same, and all bits in use.
func value(seq int) uint32 { return uint32(seq+1) * 2654435761 }

// stands fails where others came, or are left, or it ended otherwise.
func stands(t *testing.T, c *chunks.Chunks, came, left int, ended bool) {
	t.Helper()
	got, want := [2]int{c.Came(), c.Left()}, [2]int{came, left}
	if got != want || c.Ended() != ended {
		t.Fatalf("came, left: %v, ended: %v, not %v, %v", got, c.Ended(), want, ended)
	}
}

// puts fails where a chunk is answered otherwise.
func puts(t *testing.T, c *chunks.Chunks, seq int, want api.Errno) {
	t.Helper()
	if got := c.Put(seq, value(seq)); got != want {
		t.Fatalf("Put(%d): %d, not %d", seq, got, want)
	}
}

// ends fails where an end is answered otherwise.
func ends(t *testing.T, c *chunks.Chunks, n int, want api.Errno) {
	t.Helper()
	if got := c.End(n); got != want {
		t.Fatalf("End(%d): %d, not %d", n, got, want)
	}
}

// reads fails where others are read than these numbers' ones.
func reads(t *testing.T, c *chunks.Chunks, seqs ...int) {
	t.Helper()
	for _, seq := range seqs {
		if got, ok := c.Read(); !ok || got != value(seq) {
			t.Fatalf("Read: %d, %v, not %d of chunk %d", got, ok, value(seq), seq)
		}
	}
}

// dry fails where one can be read.
func dry(t *testing.T, c *chunks.Chunks) {
	t.Helper()
	if got, ok := c.Read(); ok || got != 0 {
		t.Fatalf("Read: %d, %v", got, ok)
	}
}

// with is a stream of which so many came, and so many of these were read.
func with(t *testing.T, came, read int) *chunks.Chunks {
	t.Helper()
	c := chunks.New()
	for seq := range came {
		puts(t, c, seq, api.OK)
		if seq < read {
			reads(t, c, seq)
		}
	}
	return c
}

// drawing draws numbers by a rule.
func drawing() func(n int) int {
	seed := uint64(1)
	return func(n int) int {
		seed = seed*6364136223846793005 + 1442695040888963407
		return int(seed >> 33 % uint64(n))
	}
}

// 22.1: the document's example.
func TestExample(t *testing.T) {
	if api.MostKept != most {
		t.Fatal("the limit is another one")
	}
	c := chunks.New()
	puts(t, c, 1, api.ErrForm)
	stands(t, c, 0, 0, false)
}

// 22.1: of a new one nothing came, and nothing can be read.
func TestNew(t *testing.T) {
	c := chunks.New()
	for range 3 {
		stands(t, c, 0, 0, false)
		dry(t, c)
	}
	if chunks.New() == c {
		t.Error("two streams are one")
	}
}

// 22.1: a plain one is a new one.
func TestPlain(t *testing.T) {
	c := &chunks.Chunks{}
	stands(t, c, 0, 0, false)
	dry(t, c)
	puts(t, c, 0, api.OK)
	stands(t, c, 1, 1, false)
	reads(t, c, 0)
	ends(t, c, 1, api.OK)
	stands(t, c, 1, 0, true)
}

// 22.1: only the next one is taken, from each standing on; what is refused changes nothing.
func TestPut(t *testing.T) {
	for came := range 6 {
		for read := range came + 1 {
			for _, seq := range numbers {
				c := with(t, came, read)
				want, more := api.ErrForm, 0
				if seq < came {
					want = api.ErrStale
				} else if seq == came {
					want, more = api.OK, 1
				}
				puts(t, c, seq, want)
				stands(t, c, came+more, came+more-read, false)
				for i := read; i < came+more; i++ {
					reads(t, c, i)
				}
				dry(t, c)
			}
		}
	}
}

// 22.1: what a chunk tells is any word.
func TestPutValues(t *testing.T) {
	values := []uint32{0, 1, 2, 1 << 15, 1 << 16, math.MaxInt32, 1 << 31, 1<<31 + 1, math.MaxUint32 - 1, math.MaxUint32, 0, 0}
	c := chunks.New()
	for seq, v := range values {
		if got := c.Put(seq, v); got != api.OK {
			t.Fatalf("Put(%d, %d): %d", seq, v, got)
		}
	}
	for seq, want := range values {
		if got, ok := c.Read(); !ok || got != want {
			t.Fatalf("%d: %d, %v, not %d", seq, got, ok, want)
		}
	}
	dry(t, c)
}

// 22.1: one that came already changes nothing, also with another value, read or not.
func TestPutAgain(t *testing.T) {
	c := with(t, 4, 2)
	for seq := range 4 {
		if got := c.Put(seq, value(seq)+1); got != api.ErrStale {
			t.Fatalf("Put(%d): %d", seq, got)
		}
	}
	stands(t, c, 4, 2, false)
	reads(t, c, 2, 3)
	dry(t, c)
}

// 22.1: MostKept that are not read are as many as may be, wherever in the stream they are; one that is read makes room for one.
func TestPutFull(t *testing.T) {
	for _, read := range []int{0, 1, 2, most - 1, most, most + 1, 2*most - 1, 2 * most, 1000} {
		c := with(t, read+most-1, read)
		stands(t, c, read+most-1, most-1, false)
		puts(t, c, read+most-1, api.OK)
		for range 3 {
			puts(t, c, read+most, api.ErrFull)
			stands(t, c, read+most, most, false)
		}
		reads(t, c, read)
		puts(t, c, read+most, api.OK)
		puts(t, c, read+most+1, api.ErrFull)
		stands(t, c, read+most+1, most, false)
		for i := range most {
			reads(t, c, read+1+i)
		}
		dry(t, c)
		stands(t, c, read+most+1, 0, false)
	}
}

// 22.1: of a full one what came already is stale, and what is not the next one has no form, as these are named first.
func TestPutFullOthers(t *testing.T) {
	for _, read := range []int{0, 3} {
		next := read + most
		for _, seq := range numbers {
			c := with(t, next, read)
			want := api.ErrForm
			if seq < next {
				want = api.ErrStale
			} else if seq == next {
				want = api.ErrFull
			}
			puts(t, c, seq, want)
			stands(t, c, next, most, false)
			reads(t, c, read)
		}
	}
}

// 22.1: behind the end nothing comes, also where it is full then; what came already is stale there, too.
func TestPutBehindEnd(t *testing.T) {
	for _, came := range []int{0, 1, 2, 3, most - 1, most} {
		for _, seq := range numbers {
			c := with(t, came, 0)
			ends(t, c, came, api.OK)
			want := api.ErrForm
			if seq < came {
				want = api.ErrStale
			}
			puts(t, c, seq, want)
			stands(t, c, came, came, true)
			puts(t, c, came, api.ErrForm)
			for i := range came {
				reads(t, c, i)
			}
			dry(t, c)
			puts(t, c, came, api.ErrForm)
			stands(t, c, came, 0, true)
		}
	}
}

// 22.1: a stream ends with as many as came, and with no other number; what is refused changes nothing.
func TestEnd(t *testing.T) {
	for _, came := range []int{0, 1, 2, 3, 4, most - 1, most, most + 1, 2 * most} {
		for _, n := range numbers {
			read := max(0, came-most)
			c := with(t, came, read)
			want := api.ErrForm
			if n == came {
				want = api.OK
			}
			ends(t, c, n, want)
			stands(t, c, came, came-read, n == came)
			for i := read; i < came; i++ {
				reads(t, c, i)
			}
			dry(t, c)
		}
	}
}

// 22.1: an end that was refused is none: what is next comes, and the right end, too.
func TestEndRefused(t *testing.T) {
	c := with(t, 2, 0)
	ends(t, c, 3, api.ErrForm)
	ends(t, c, 1, api.ErrForm)
	puts(t, c, 2, api.OK)
	stands(t, c, 3, 3, false)
	ends(t, c, 2, api.ErrForm)
	ends(t, c, 3, api.OK)
	stands(t, c, 3, 3, true)
}

// 22.1: one that ended may be told the same end again, but no other one.
func TestEndAgain(t *testing.T) {
	for _, came := range []int{0, 1, 3, most} {
		c := with(t, came, 0)
		ends(t, c, came, api.OK)
		for _, n := range numbers {
			want := api.ErrForm
			if n == came {
				want = api.OK
			}
			ends(t, c, n, want)
			stands(t, c, came, came, true)
		}
	}
}

// 22.1: how many there are is held against how many came, not against how many are left; and one that ended can be read.
func TestEndThenRead(t *testing.T) {
	c := with(t, 5, 2)
	ends(t, c, 3, api.ErrForm)
	ends(t, c, 2, api.ErrForm)
	ends(t, c, 5, api.OK)
	reads(t, c, 2, 3)
	stands(t, c, 5, 1, true)
	ends(t, c, 5, api.OK)
	reads(t, c, 4)
	dry(t, c)
	stands(t, c, 5, 0, true)
	ends(t, c, 5, api.OK)
	ends(t, c, 0, api.ErrForm)
}

// 22.1: the first that was not read is read, each once; a reading of none changes nothing.
func TestRead(t *testing.T) {
	c := chunks.New()
	next := 0
	for seq := range 40 {
		puts(t, c, seq, api.OK)
		if seq%3 == 2 {
			reads(t, c, next, next+1)
			next += 2
		}
		stands(t, c, seq+1, seq+1-next, false)
	}
	for next < 40 {
		reads(t, c, next)
		next++
	}
	for range 3 {
		dry(t, c)
		stands(t, c, 40, 0, false)
	}
	puts(t, c, 40, api.OK)
	reads(t, c, 40)
}

// 22.1: over a long stream all are counted, and each comes as it was sent.
func TestLong(t *testing.T) {
	c := with(t, 3, 0)
	for i := range 1 << 18 {
		puts(t, c, i+3, api.OK)
		reads(t, c, i)
	}
	stands(t, c, 1<<18+3, 3, false)
	puts(t, c, 0, api.ErrStale)
	puts(t, c, 1<<18+2, api.ErrStale)
	ends(t, c, 1<<18+3, api.OK)
}

// call does one of the calls that change something: a reading, an end or a chunk about the next one.
func call(t *testing.T, c *chunks.Chunks, p *stream, what int) {
	t.Helper()
	next := len(p.came)
	if what == 0 {
		got, ok := c.Read()
		if want, is := p.read(); got != want || ok != is {
			t.Fatalf("Read: %d, %v, not %d, %v", got, ok, want, is)
		}
		return
	}
	if what < 4 {
		n := next + what - 2
		ends(t, c, n, p.end(n))
		return
	}
	seq := next + what - 5
	puts(t, c, seq, p.put(seq, value(seq)))
}

// same fails where a stream stands otherwise than the plain one.
func same(t *testing.T, c *chunks.Chunks, p *stream) {
	t.Helper()
	stands(t, c, len(p.came), len(p.rest), p.ended)
	if c.Left() > most {
		t.Fatalf("%d are kept", c.Left())
	}
}

// 22.1: each order of five calls, against two lists, of an empty stream and of one that is all but full.
func TestAllOrders(t *testing.T) {
	const kinds, length = 7, 5
	orders := 1
	for range length {
		orders *= kinds
	}
	for _, first := range []int{0, most - 1} {
		for order := range orders {
			c, p := chunks.New(), &stream{}
			for seq := range first {
				puts(t, c, seq, p.put(seq, value(seq)))
			}
			rest := order
			for range length {
				call(t, c, p, rest%kinds)
				same(t, c, p)
				rest /= kinds
			}
		}
	}
}

// 22.1: long runs, drawn by a rule, against two lists.
func TestDrawn(t *testing.T) {
	draw := drawing()
	for range 300 {
		c, p := chunks.New(), &stream{}
		// More comes than is read, or less: so it is often full, or empty.
		part := 1 + draw(9)
		for range 500 {
			what := 0
			if draw(10) < part {
				what = 4 + draw(3)
			}
			if draw(400) == 0 {
				what = 1 + draw(3)
			}
			call(t, c, p, what)
			same(t, c, p)
		}
	}
}

// 22.1: what is done to one stream does nothing to another one.
func TestTwo(t *testing.T) {
	a, b := chunks.New(), chunks.New()
	puts(t, a, 0, api.OK)
	stands(t, b, 0, 0, false)
	puts(t, b, 0, api.OK)
	puts(t, b, 1, api.OK)
	reads(t, b, 0)
	ends(t, b, 2, api.OK)
	stands(t, a, 1, 1, false)
	reads(t, a, 0)
	stands(t, b, 2, 1, true)
}

// 22.1: the looks change nothing.
func TestLooks(t *testing.T) {
	c := with(t, 3, 1)
	for range 4 {
		stands(t, c, 3, 2, false)
	}
	reads(t, c, 1, 2)
	dry(t, c)
}

// 22.1: of none: ErrInput, or nothing.
func TestNone(t *testing.T) {
	var c *chunks.Chunks
	for _, n := range numbers {
		puts(t, c, n, api.ErrInput)
		ends(t, c, n, api.ErrInput)
		dry(t, c)
		stands(t, c, 0, 0, false)
	}
}
