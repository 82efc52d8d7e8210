package frame_test

import (
	"math"
	"testing"

	"cableway/api"
	"cableway/frame"
)

// plain is a frame that may be, with no number 0.
var plain = api.Frame{
	Kind: api.KindChunk, Client: 2, Service: 1, Slot: 13, Gen: 0xabcdef, Call: 0x12345678,
	Try: 9, Sure: true, Seq: 0xbeef, Value: 0x9abcdef0,
}

// least is a frame of which no number is more than it must be, and full one of which none is less than it can be.
var (
	least = api.Frame{Kind: 1}
	full  = api.Frame{
		Kind: 10, Client: 3, Service: 3, Slot: 15, Gen: 1<<24 - 1, Call: math.MaxUint32,
		Try: 15, Sure: true, Stream: true, Seq: 1<<16 - 1, Value: math.MaxUint32,
	}
)

// part is a number of a frame: where it stands in the words, and what it may be.
type part struct {
	name  string
	at    func(f *api.Frame) *int
	word  int
	from  int
	bits  int
	least int
	most  int
}

// parts are the numbers of which not all that an int can tell may be.
var parts = []part{
	{"Kind", func(f *api.Frame) *int { return &f.Kind }, 0, 0, 4, 1, 10},
	{"Client", func(f *api.Frame) *int { return &f.Client }, 0, 4, 4, 0, 3},
	{"Service", func(f *api.Frame) *int { return &f.Service }, 0, 8, 4, 0, 3},
	{"Slot", func(f *api.Frame) *int { return &f.Slot }, 0, 12, 8, 0, 15},
	{"Try", func(f *api.Frame) *int { return &f.Try }, 0, 20, 4, 0, 15},
	{"Gen", func(f *api.Frame) *int { return &f.Gen }, 0, 26, 24, 0, 1<<24 - 1},
	{"Seq", func(f *api.Frame) *int { return &f.Seq }, 2, 0, 16, 0, 1<<16 - 1},
}

// tried are numbers about the edges of a part; some are like one that may be in their lower bits.
func (p part) tried() []int {
	l := []int{
		p.least - 1, p.least, p.least + 1, (p.least + p.most) / 2, p.most - 1, p.most, p.most + 1,
		-1, -p.most, -p.most - 1, math.MinInt, math.MinInt + p.least, math.MaxInt, math.MaxInt - 1,
	}
	for bit := p.bits - 1; bit < 63; bit++ {
		l = append(l, 1<<bit, 1<<bit+p.least, -1<<bit+p.least)
	}
	return l
}

func (p part) may(n int) bool { return n >= p.least && n <= p.most }

// wanted is the first, second and third word of a frame, worked out by sums; and whether it may be.
func wanted(f api.Frame) (api.Words, bool) {
	w := api.Words{0, uint64(f.Call) + uint64(f.Value)*(1<<32), 0}
	for _, p := range parts {
		n := *p.at(&f)
		if !p.may(n) {
			return api.Words{}, false
		}
		w[p.word] += uint64(n) * (1 << p.from)
	}
	if f.Sure {
		w[0] += 1 << 24
	}
	if f.Stream {
		w[0] += 1 << 25
	}
	return w, true
}

// holds looks what May, Put and Get answer of a frame.
func holds(t *testing.T, f api.Frame) {
	t.Helper()
	want, may := wanted(f)
	if frame.May(f) != may {
		t.Errorf("May of %+v: not %v", f, may)
	}
	w, ok := frame.Put(f)
	if ok != may || w != want {
		t.Errorf("Put of %+v: %x, %v; not %x, %v", f, w, ok, want, may)
	}
	if !may {
		return
	}
	if back, err := frame.Get(w); back != f || err != api.OK {
		t.Errorf("Get of Put of %+v: %+v, %d", f, back, err)
	}
}

// none looks whether words are no frame's.
func none(t *testing.T, w api.Words) {
	t.Helper()
	if f, err := frame.Get(w); f != (api.Frame{}) || err != api.ErrForm {
		t.Errorf("Get of %x: %+v, %d", w, f, err)
	}
}

// 5.1: some frames' words, by hand; the document's example.
func TestPutByHand(t *testing.T) {
	for _, c := range []struct {
		f api.Frame
		w api.Words
	}{
		{plain, api.Words{0x2af37bd90d123, 0x9abcdef012345678, 0xbeef}},
		{least, api.Words{1, 0, 0}},
		{full, api.Words{0x3fffffff0f33a, math.MaxUint64, 0xffff}},
		{api.Frame{Kind: api.KindReply, Value: 8}, api.Words{2, 8 << 32, 0}},
		{api.Frame{Kind: api.KindEnd, Call: 7, Seq: 3}, api.Words{4, 7, 3}},
		{api.Frame{Kind: api.KindRequest, Client: 3}, api.Words{0x31, 0, 0}},
		{api.Frame{Kind: api.KindRequest, Service: 3}, api.Words{0x301, 0, 0}},
		{api.Frame{Kind: api.KindRequest, Slot: 15}, api.Words{0xf001, 0, 0}},
		{api.Frame{Kind: api.KindRequest, Try: 15}, api.Words{0xf00001, 0, 0}},
		{api.Frame{Kind: api.KindRequest, Sure: true}, api.Words{0x1000001, 0, 0}},
		{api.Frame{Kind: api.KindRequest, Stream: true}, api.Words{0x2000001, 0, 0}},
		{api.Frame{Kind: api.KindRequest, Gen: 1}, api.Words{0x4000001, 0, 0}},
		{api.Frame{Kind: api.KindRequest, Gen: 1<<24 - 1}, api.Words{0x3fffffc000001, 0, 0}},
	} {
		if w, ok := frame.Put(c.f); w != c.w || !ok {
			t.Errorf("Put of %+v: %x, %v", c.f, w, ok)
		}
		if f, err := frame.Get(c.w); f != c.f || err != api.OK {
			t.Errorf("Get of %x: %+v, %d", c.w, f, err)
		}
		if !frame.May(c.f) {
			t.Errorf("May of %+v", c.f)
		}
	}
}

// 5.1: each number about its edges, in different frames: what may be, and where it stands.
func TestEachNumber(t *testing.T) {
	for _, f := range []api.Frame{plain, least, full} {
		for _, p := range parts {
			for _, n := range p.tried() {
				g := f
				*p.at(&g) = n
				holds(t, g)
			}
		}
		for _, n := range []uint32{0, 1, 0xff, 1 << 16, 1 << 31, math.MaxUint32 - 1, math.MaxUint32} {
			g, h := f, f
			g.Call, h.Value = n, n
			holds(t, g)
			holds(t, h)
		}
		for _, is := range []bool{false, true} {
			g, h := f, f
			g.Sure, h.Stream = is, is
			holds(t, g)
			holds(t, h)
		}
	}
}

// 5.1: the kinds are from KindRequest to KindDue; a frame without a kind is none.
func TestKinds(t *testing.T) {
	for _, kind := range []int{
		api.KindRequest, api.KindReply, api.KindChunk, api.KindEnd, api.KindCancel,
		api.KindCredit, api.KindFailure, api.KindAck, api.KindAlarm, api.KindDue,
	} {
		if !frame.May(api.Frame{Kind: kind}) {
			t.Errorf("May of the kind %d", kind)
		}
	}
	for _, kind := range []int{-1, 0, 11, 15, 16, 17} {
		if frame.May(api.Frame{Kind: kind}) {
			t.Errorf("May of the kind %d", kind)
		}
	}
}

// 5.1: two numbers that may not be make no frame that may be.
func TestTwoThatMayNotBe(t *testing.T) {
	for _, p := range parts {
		for _, q := range parts {
			for _, n := range []int{p.least - 1, p.most + 1} {
				for _, m := range []int{q.least - 1, q.most + 1} {
					f := plain
					*p.at(&f), *q.at(&f) = n, m
					if w, ok := frame.Put(f); frame.May(f) || ok || w != (api.Words{}) {
						t.Errorf("%s %d and %s %d: %x, %v", p.name, n, q.name, m, w, ok)
					}
				}
			}
		}
	}
}

// 5.1: all frames of numbers at their edges; no two have the same words.
func TestAllEdges(t *testing.T) {
	met := map[api.Words]api.Frame{}
	for n := range 1 << 11 {
		f := least
		for i, p := range parts {
			if n>>i&1 == 1 {
				*p.at(&f) = p.most
			}
		}
		f.Sure, f.Stream = n>>7&1 == 1, n>>8&1 == 1
		f.Call, f.Value = uint32(-(n >> 9 & 1)), uint32(-(n >> 10 & 1))
		holds(t, f)
		w, _ := frame.Put(f)
		if g, is := met[w]; is {
			t.Errorf("the same words: %+v and %+v", f, g)
		}
		met[w] = f
	}
}

// 5.1: all that the first word's fields below Sure have room for: it is a frame just if all of it may be.
func TestGetWhatFieldsHaveRoomFor(t *testing.T) {
	rest, _ := frame.Put(plain)
	rest[0] &^= 1<<24 - 1
	for n := range uint64(1 << 20) {
		w := rest
		w[0] |= n | 9<<20
		f := plain
		f.Kind, f.Client, f.Service, f.Slot = int(n%16), int(n/16%16), int(n/256%16), int(n/4096)
		got, err := frame.Get(w)
		if f.Kind < 1 || f.Kind > 10 || f.Client > 3 || f.Service > 3 || f.Slot > 15 {
			if got != (api.Frame{}) || err != api.ErrForm {
				t.Fatalf("Get of %x: %+v, %d", w, got, err)
			}
		} else if got != f || err != api.OK {
			t.Fatalf("Get of %x: %+v, %d; not %+v", w, got, err, f)
		}
	}
}

// 5.1: words with one of the other bits, or with more of them, are no frame's.
func TestGetOtherBits(t *testing.T) {
	for _, f := range []api.Frame{plain, least, full} {
		good, _ := frame.Put(f)
		for bit := 50; bit < api.WordBits; bit++ {
			w := good
			w[0] |= 1 << bit
			none(t, w)
			w[0] |= math.MaxUint64 << bit
			none(t, w)
		}
		for bit := 16; bit < api.WordBits; bit++ {
			w := good
			w[2] |= 1 << bit
			none(t, w)
			w[0] |= 1 << 50
			none(t, w)
		}
	}
	for _, w := range []api.Words{
		{}, {0, math.MaxUint64, 0xffff}, {math.MaxUint64, 0, 0}, {1 << 63, 0, 0}, {1 << 50, 0, 0}, {0, 0, 1 << 16},
		{math.MaxUint64, math.MaxUint64, math.MaxUint64}, {1, 0, math.MaxUint64}, {1, 0, 1 << 63},
	} {
		none(t, w)
	}
}

// 5.1: very many words, drawn by a rule: Get tells a frame just of those that are some frame's.
func TestGetDrawn(t *testing.T) {
	x := uint64(7)
	draw := func() uint64 {
		x = x*6364136223846793005 + 1442695040888963407
		return x ^ x>>29
	}
	frames := 0
	for n := range 200000 {
		w := api.Words{draw(), draw(), draw()}
		// By turns all bits are drawn, and just those that most frames have.
		if n%4 != 0 {
			w[0] &= (1<<50 - 1) &^ (0xcc0 | 0xf0<<12)
			w[2] &= 1<<16 - 1
		}
		f, err := frame.Get(w)
		if err == api.OK {
			frames++
			if want, may := wanted(f); !may || want != w {
				t.Fatalf("Get of %x: %+v", w, f)
			}
		} else if f != (api.Frame{}) || err != api.ErrForm {
			t.Fatalf("Get of %x: %+v, %d", w, f, err)
		}
	}
	if frames < 10000 {
		t.Errorf("only %d frames", frames)
	}
}

// nearest is the time from 0 to Never - 1 that a frame tells.
func nearest(t api.Tick) api.Tick {
	switch {
	case t < 0:
		return 0
	case t >= api.Never:
		return api.Never - 1
	}
	return t
}

// times are times about the edges of Value, of Seq and of all times.
var times = []api.Tick{
	math.MinInt64, math.MinInt64 + 1, -api.Never, -1 << 32, -256, -1, 0, 1, 5, 255, 256, 1 << 16, 1<<31 - 1, 1 << 31,
	1<<32 - 1, 1 << 32, 1<<32 + 1, 5<<32 + 7, 255 << 32, 1<<39 - 1, 1 << 39, api.Never - 2, api.Never - 1,
	api.Never, api.Never + 1, api.Never + 5, 2 * api.Never, 1 << 48, math.MaxInt64 - 1, math.MaxInt64,
}

// 5.2: where a time stands in a frame, by hand.
func TestAtByHand(t *testing.T) {
	for _, c := range []struct {
		t     api.Tick
		value uint32
		seq   int
	}{
		{0, 0, 0}, {5, 5, 0}, {1<<32 - 1, math.MaxUint32, 0}, {1 << 32, 0, 1}, {3<<32 + 9, 9, 3}, {0xabcdef0123, 0xcdef0123, 0xab},
		{api.Never - 2, math.MaxUint32 - 1, 255}, {api.Never - 1, math.MaxUint32, 255},
		// A time beyond counts as the nearest.
		{-1, 0, 0}, {math.MinInt64, 0, 0}, {-1 << 32, 0, 0},
		{api.Never, math.MaxUint32, 255}, {api.Never + 5, math.MaxUint32, 255}, {math.MaxInt64, math.MaxUint32, 255},
	} {
		for _, f := range []api.Frame{plain, least, full, {}} {
			got := frame.At(f, c.t)
			f.Value, f.Seq = c.value, c.seq
			if got != f {
				t.Errorf("At of %d: %+v; not %+v", c.t, got, f)
			}
		}
	}
}

// 5.2: a frame's time is the one that it was given, or the nearest; all else is as it was.
func TestAtThenWhen(t *testing.T) {
	odd := api.Frame{Kind: -1, Client: math.MinInt, Service: 99, Slot: -7, Gen: math.MaxInt, Call: 3, Try: 16, Stream: true, Seq: -1, Value: 1}
	for _, f := range []api.Frame{plain, least, full, {}, odd, {Seq: math.MinInt}, {Seq: math.MaxInt}, {Seq: 1 << 40}} {
		for _, at := range times {
			g := frame.At(f, at)
			if got := frame.When(g); got != nearest(at) {
				t.Errorf("When of At of %d: %d", at, got)
			}
			if g.Seq < 0 || g.Seq > 255 {
				t.Errorf("Seq of At of %d: %d", at, g.Seq)
			}
			again := frame.At(g, 0)
			g.Seq, g.Value = f.Seq, f.Value
			if g != f {
				t.Errorf("At of %d: %+v; not %+v", at, g, f)
			}
			g.Seq, g.Value = 0, 0
			if again != g {
				t.Errorf("At of 0 behind %d: %+v", at, again)
			}
		}
	}
}

// 5.2: a frame with a time may be, as the one without it may, whatever its Seq was; its words tell the time.
func TestTimeInWords(t *testing.T) {
	for _, f := range []api.Frame{plain, least, full, {Kind: api.KindAlarm, Seq: -1}, {Kind: api.KindDue, Seq: math.MaxInt}} {
		for _, at := range times {
			w, ok := frame.Put(frame.At(f, at))
			if !ok {
				t.Fatalf("Put of At of %d: %+v", at, f)
			}
			if g, err := frame.Get(w); err != api.OK || frame.When(g) != nearest(at) {
				t.Errorf("When of Get of Put of At of %d: %d, %d", at, frame.When(g), err)
			}
		}
	}
	if frame.May(frame.At(api.Frame{}, 5)) {
		t.Error("a time makes a frame of none")
	}
}

// 5.2: a time is Value, and Seq's lower eight bits above it: no other bit, and nothing else of the frame.
func TestWhen(t *testing.T) {
	for _, c := range []struct {
		value uint32
		seq   int
		want  api.Tick
	}{
		{0, 0, 0}, {5, 0, 5}, {math.MaxUint32, 0, 1<<32 - 1}, {0, 1, 1 << 32}, {9, 3, 3<<32 + 9}, {0xcdef0123, 0xab, 0xabcdef0123},
		{0, 128, 1 << 39}, {0, 255, 255 << 32}, {math.MaxUint32, 255, api.Never - 1},
		{5, 256, 5}, {5, 257, 1<<32 + 5}, {5, 0xff00, 5}, {5, 0xffff, 255<<32 + 5}, {5, 1 << 16, 5}, {5, 1<<16 + 2, 2<<32 + 5},
		{math.MaxUint32, math.MaxInt, api.Never - 1}, {7, math.MaxInt - 255, 7}, {7, 1 << 40, 7},
		// Seq may not be below 0; its lower bits are what they are.
		{7, -1, 255<<32 + 7}, {7, -256, 7}, {7, -255, 1<<32 + 7}, {7, math.MinInt, 7}, {math.MaxUint32, math.MinInt + 255, api.Never - 1},
	} {
		for _, f := range []api.Frame{plain, least, full, {}, {Kind: -1, Gen: -1, Client: math.MaxInt}} {
			f.Value, f.Seq = c.value, c.seq
			if got := frame.When(f); got != c.want {
				t.Errorf("When of Value %x and Seq %x: %d; not %d", c.value, c.seq, got, c.want)
			}
		}
	}
}

// 5.2: no frame tells a time below 0, or above Never.
func TestWhenIsATime(t *testing.T) {
	for seq := -300; seq < 70000; seq++ {
		for _, value := range []uint32{0, 1, 1 << 31, math.MaxUint32} {
			if got := frame.When(api.Frame{Seq: seq, Value: value}); got < 0 || got > api.Never {
				t.Fatalf("When of Value %x and Seq %x: %d", value, seq, got)
			}
		}
	}
}
