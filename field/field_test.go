package field_test

import (
	"math"
	"slices"
	"testing"

	"cableway/api"
	"cableway/field"
)

// none are fields that there are not; some have sums of At and Bits that wrap round.
var none = []field.Field{
	{},
	{At: 4},
	{At: 4, Bits: -1},
	{At: -1, Bits: 1},
	{At: -1, Bits: 64},
	{At: 0, Bits: 65},
	{At: 1, Bits: 64},
	{At: 63, Bits: 2},
	{At: 64, Bits: 0},
	{At: 64, Bits: 1},
	{At: math.MaxInt, Bits: 1},
	{At: 1, Bits: math.MaxInt},
	{At: math.MaxInt, Bits: math.MaxInt},
	{At: math.MinInt, Bits: 1},
	{At: 1, Bits: math.MinInt},
	{At: math.MinInt, Bits: math.MinInt},
	{At: math.MinInt, Bits: math.MaxInt},
	{At: math.MaxInt, Bits: math.MinInt},
}

var words = []uint64{0, 1, 0xf0, 0x0123456789abcdef, 0xaaaaaaaaaaaaaaaa, 0x5555555555555555, 1 << 63, math.MaxUint64}

// every is all fields that there are.
func every() []field.Field {
	var l []field.Field
	for at := 0; at < api.WordBits; at++ {
		for bits := 1; at+bits <= api.WordBits; bits++ {
			l = append(l, field.Field{At: at, Bits: bits})
		}
	}
	return l
}

// most is the greatest number of so many bits, bit by bit.
func most(bits int) uint64 {
	var n uint64
	for range bits {
		n = 2*n + 1
	}
	return n
}

func bit(w uint64, i int) uint64 { return w >> i & 1 }

func has(f field.Field, i int) bool { return i >= f.At && i < f.At+f.Bits }

// get and put are what Get and Put must answer, bit by bit.
func get(f field.Field, w uint64) uint64 {
	var n uint64
	for i := range f.Bits {
		n |= bit(w, f.At+i) << i
	}
	return n
}

func put(f field.Field, w, n uint64) uint64 {
	if n > most(f.Bits) {
		n = most(f.Bits)
	}
	var x uint64
	for i := range api.WordBits {
		if has(f, i) {
			x |= bit(n, i-f.At) << i
		} else {
			x |= bit(w, i) << i
		}
	}
	return x
}

// 1.1: just the fields that lie in the word may be.
func TestMay(t *testing.T) {
	for at := -70; at <= 140; at++ {
		for bits := -70; bits <= 140; bits++ {
			want := at >= 0 && bits >= 1 && at+bits <= 64
			if got := (field.Field{At: at, Bits: bits}).May(); got != want {
				t.Errorf("May of {%d %d}: %v", at, bits, got)
			}
		}
	}
	for _, f := range none {
		if f.May() {
			t.Errorf("May of %v", f)
		}
	}
}

// 1.1: the greatest number.
func TestMost(t *testing.T) {
	for _, f := range every() {
		if got := f.Most(); got != most(f.Bits) {
			t.Errorf("Most of %v: %x", f, got)
		}
	}
	if (field.Field{At: 63, Bits: 1}).Most() != 1 || (field.Field{Bits: 64}).Most() != math.MaxUint64 {
		t.Error("Most at the edges")
	}
}

// 1.1: the document's example, and some more that are worked out by hand.
func TestGetAndPutByHand(t *testing.T) {
	f := field.Field{At: 4, Bits: 4}
	if got := f.Get(0xf0); got != 15 {
		t.Errorf("Get: %d", got)
	}
	if got := f.Get(0xabc); got != 0xb {
		t.Errorf("Get: %x", got)
	}
	if got := f.Put(0xabc, 3); got != 0xa3c {
		t.Errorf("Put: %x", got)
	}
	if got := f.Put(0xabc, 16); got != 0xafc {
		t.Errorf("Put of what is too great: %x", got)
	}
	if got := f.Put(0xabc, 0); got != 0xa0c {
		t.Errorf("Put of 0: %x", got)
	}
	whole := field.Field{Bits: 64}
	if whole.Get(0xabc) != 0xabc || whole.Put(0xabc, 7) != 7 || whole.Put(1, math.MaxUint64) != math.MaxUint64 {
		t.Error("the whole word")
	}
	top := field.Field{At: 63, Bits: 1}
	if top.Get(1<<63) != 1 || top.Get(1<<63-1) != 0 || top.Put(5, 1) != 1<<63|5 || top.Put(5, 2) != 1<<63|5 {
		t.Error("the last bit")
	}
}

// 1.1: each field against what its bits are one by one.
func TestGetAndPutBitByBit(t *testing.T) {
	for _, f := range every() {
		m := most(f.Bits)
		for _, w := range words {
			if got := f.Get(w); got != get(f, w) {
				t.Fatalf("Get of %v and %x: %x", f, w, got)
			}
			for _, n := range []uint64{0, 1, m / 3, m - 1, m, m + 1, math.MaxUint64} {
				x := f.Put(w, n)
				if x != put(f, w, n) {
					t.Fatalf("Put of %v, %x and %x: %x", f, w, n, x)
				}
				if f.Get(x) != min(n, m) {
					t.Fatalf("Get behind Put of %v, %x and %x: %x", f, w, n, f.Get(x))
				}
			}
		}
	}
}

// 1.1: what fits is up to the greatest number.
func TestFits(t *testing.T) {
	for _, f := range every() {
		m := most(f.Bits)
		if !f.Fits(0) || !f.Fits(1) || !f.Fits(m) {
			t.Errorf("does not fit %v", f)
		}
		if f.Bits < api.WordBits && (f.Fits(m+1) || f.Fits(math.MaxUint64)) {
			t.Errorf("fits %v", f)
		}
	}
}

// 1.1: where there is no such field.
func TestNone(t *testing.T) {
	for _, f := range none {
		if f.Most() != 0 {
			t.Errorf("Most of %v", f)
		}
		for _, w := range words {
			if f.Get(w) != 0 {
				t.Errorf("Get of %v and %x", f, w)
			}
			for _, n := range words {
				if f.Put(w, n) != w {
					t.Errorf("Put of %v, %x and %x", f, w, n)
				}
			}
			if f.Fits(w) {
				t.Errorf("Fits of %v and %x", f, w)
			}
		}
	}
}

// 1.2: no fields, and one alone, share nothing.
func TestApartFew(t *testing.T) {
	if !field.Apart() || !field.Apart([]field.Field{}...) {
		t.Error("none are not apart")
	}
	for _, f := range every() {
		if !field.Apart(f) {
			t.Errorf("one alone: %v", f)
		}
		if field.Apart(f, f) {
			t.Errorf("twice the same: %v", f)
		}
	}
}

// 1.2: two are apart where no bit is in both, in either order.
func TestApartTwo(t *testing.T) {
	l := every()
	for i := 0; i < len(l); i += 7 {
		for k := 0; k < len(l); k += 5 {
			a, b := l[i], l[k]
			want := a.At+a.Bits <= b.At || b.At+b.Bits <= a.At
			if field.Apart(a, b) != want || field.Apart(b, a) != want {
				t.Errorf("%v and %v", a, b)
			}
		}
	}
}

// 1.2: of many each is held against each.
func TestApartMany(t *testing.T) {
	var bits []field.Field
	for at := range api.WordBits {
		bits = append(bits, field.Field{At: at, Bits: 1})
	}
	if !field.Apart(bits...) {
		t.Error("each bit once")
	}
	if field.Apart(append(slices.Clone(bits), field.Field{At: 0, Bits: 1})...) {
		t.Error("the first bit twice")
	}
	low, mid, top := field.Field{At: 0, Bits: 4}, field.Field{At: 4, Bits: 28}, field.Field{At: 32, Bits: 32}
	if !field.Apart(low, mid, top) || !field.Apart(top, low, mid) {
		t.Error("side by side")
	}
	if field.Apart(low, top, field.Field{At: 3, Bits: 2}) || field.Apart(field.Field{Bits: 64}, low) {
		t.Error("a bit is shared")
	}
}

// 1.2: fields that there are not are not apart, wherever they stand, though they share no bit.
func TestApartNone(t *testing.T) {
	low, top := field.Field{At: 0, Bits: 1}, field.Field{At: 62, Bits: 1}
	for _, f := range none {
		if field.Apart(f) || field.Apart(f, low, top) || field.Apart(low, f, top) || field.Apart(low, top, f) {
			t.Errorf("apart with %v", f)
		}
	}
}

// 1.2: what is left is what is in none of the fields, whether they share bits or not.
func TestRest(t *testing.T) {
	l := every()
	for _, w := range words {
		if field.Rest(w) != w {
			t.Errorf("Rest without fields of %x", w)
		}
		for i := 0; i < len(l); i += 3 {
			a, b := l[i], l[(7*i+11)%len(l)]
			var one, two uint64
			for k := range api.WordBits {
				if !has(a, k) {
					one |= bit(w, k) << k
					if !has(b, k) {
						two |= bit(w, k) << k
					}
				}
			}
			if got := field.Rest(w, a); got != one {
				t.Errorf("Rest of %x and %v: %x", w, a, got)
			}
			if field.Rest(w, a, b) != two || field.Rest(w, b, a) != two || field.Rest(w, a, b, a) != two {
				t.Errorf("Rest of %x, %v and %v", w, a, b)
			}
		}
	}
	if got := field.Rest(0xabcd, field.Field{At: 0, Bits: 4}, field.Field{At: 8, Bits: 4}); got != 0xa0c0 {
		t.Errorf("Rest by hand: %x", got)
	}
}

// 1.2: fields that there are not have no bits.
func TestRestNone(t *testing.T) {
	f := field.Field{At: 4, Bits: 4}
	for _, w := range words {
		if field.Rest(w, none...) != w {
			t.Errorf("Rest of %x", w)
		}
		for _, g := range none {
			if field.Rest(w, g) != w || field.Rest(w, g, f) != w&^0xf0 || field.Rest(w, f, g) != w&^0xf0 {
				t.Errorf("Rest of %x and %v", w, g)
			}
		}
	}
}

// R2: what is handed in is not changed.
func TestHandedIn(t *testing.T) {
	l := append([]field.Field{{At: 8, Bits: 4}, {At: 0, Bits: 4}}, none...)
	was := slices.Clone(l)
	field.Apart(l[:2]...)
	field.Apart(l...)
	field.Rest(math.MaxUint64, l...)
	if !slices.Equal(l, was) {
		t.Error("changed")
	}
}
