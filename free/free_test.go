package free_test

import (
	"math"
	"slices"
	"testing"

	"cableway/api"
	"cableway/free"
)

// upTo is 0 to n - 1.
func upTo(n int) []int {
	l := make([]int, n)
	for i := range l {
		l[i] = i
	}
	return l
}

// beyond are numbers that there are not, where there are n.
func beyond(n int) []int {
	return []int{-1, -2, -n - 1, math.MinInt, math.MinInt + 1, n, n + 1, 2*n + 1, api.MostFree, api.MostFree + 1, math.MaxInt - 1, math.MaxInt}
}

// holds looks whether just these of n numbers can be taken, in this order.
func holds(t *testing.T, f *free.Free, n int, want ...int) {
	t.Helper()
	if f.Len() != len(want) || !slices.Equal(f.All(), want) {
		t.Fatalf("%d can be taken: %v; not %v", f.Len(), f.All(), want)
	}
	for i := range n {
		if f.Has(i) != slices.Contains(want, i) {
			t.Fatalf("Has of %d: %v", i, f.Has(i))
		}
	}
	for _, i := range beyond(n) {
		if f.Has(i) {
			t.Fatalf("Has of %d", i)
		}
	}
}

// takes looks whether these numbers are taken, in this order.
func takes(t *testing.T, f *free.Free, want ...int) {
	t.Helper()
	for _, n := range want {
		if got, ok := f.Take(); got != n || !ok {
			t.Fatalf("Take: %d, %v; not %d", got, ok, n)
		}
	}
}

// gives looks whether these numbers can be given back.
func gives(t *testing.T, f *free.Free, l ...int) {
	t.Helper()
	for _, n := range l {
		if !f.Give(n) {
			t.Fatalf("Give of %d: false", n)
		}
	}
}

// takesNone looks whether none can be taken: the number is 0 then.
func takesNone(t *testing.T, f *free.Free) {
	t.Helper()
	for range 2 {
		if n, ok := f.Take(); n != 0 || ok {
			t.Fatalf("Take of what there is not: %d, %v", n, ok)
		}
	}
}

// 4.1: the document's example; all of the numbers can be taken, in order, and then none.
func TestNew(t *testing.T) {
	f := free.New(2)
	holds(t, f, 2, 0, 1)
	takes(t, f, 0, 1)
	takesNone(t, f)
	for _, n := range []int{0, 1, 2, 3, 16, 100, api.MostFree - 1, api.MostFree} {
		f := free.New(n)
		holds(t, f, n, upTo(n)...)
		takes(t, f, upTo(n)...)
		takesNone(t, f)
		holds(t, f, n)
	}
}

// 4.1: how many, beyond what there may be, counts as the nearest.
func TestNewBeyond(t *testing.T) {
	for _, n := range []int{math.MinInt, math.MinInt + 1, -api.MostFree, -2, -1} {
		f := free.New(n)
		if f == nil {
			t.Fatalf("New of %d: nil", n)
		}
		holds(t, f, 0)
		takesNone(t, f)
		if f.Give(0) || f.Give(-1) || f.Give(n) {
			t.Errorf("New of %d: there is a number", n)
		}
	}
	for _, n := range []int{api.MostFree + 1, 2 * api.MostFree, math.MaxInt - 1, math.MaxInt} {
		f := free.New(n)
		holds(t, f, api.MostFree, upTo(api.MostFree)...)
		takes(t, f, upTo(api.MostFree)...)
		takesNone(t, f)
		if f.Give(api.MostFree) || !f.Give(api.MostFree-1) {
			t.Errorf("New of %d: not the nearest", n)
		}
	}
}

// 4.1: a number that is taken is no more among those that can be.
func TestTake(t *testing.T) {
	f := free.New(4)
	takes(t, f, 0)
	holds(t, f, 4, 1, 2, 3)
	takes(t, f, 1, 2)
	holds(t, f, 4, 3)
	takes(t, f, 3)
	holds(t, f, 4)
	takesNone(t, f)
	holds(t, f, 4)
}

// 4.1, Words: the one that was given back first is taken first, behind those that were not taken yet.
func TestGive(t *testing.T) {
	f := free.New(4)
	takes(t, f, 0, 1, 2)
	gives(t, f, 2, 0)
	holds(t, f, 4, 3, 2, 0)
	takes(t, f, 3, 2)
	gives(t, f, 3, 1, 2)
	holds(t, f, 4, 0, 3, 1, 2)
	takes(t, f, 0, 3, 1, 2)
	takesNone(t, f)
	gives(t, f, 3)
	takes(t, f, 3)
	takesNone(t, f)
	gives(t, f, 2, 3, 1, 0)
	holds(t, f, 4, 2, 3, 1, 0)
	takes(t, f, 2, 3, 1, 0)
	takesNone(t, f)
}

// 4.1: what is not taken can't be given back, and stands where it stood.
func TestGiveWhatIsNotTaken(t *testing.T) {
	f := free.New(3)
	for n := range 3 {
		if f.Give(n) {
			t.Errorf("Give of %d, that was never taken", n)
		}
	}
	holds(t, f, 3, 0, 1, 2)
	takes(t, f, 0, 1)
	if f.Give(2) {
		t.Error("Give of the last one, that was never taken")
	}
	gives(t, f, 1)
	if f.Give(1) {
		t.Error("Give of what was given back")
	}
	holds(t, f, 3, 2, 1)
	gives(t, f, 0)
	if f.Give(1) || f.Give(0) || f.Give(2) {
		t.Error("Give of what can be taken")
	}
	holds(t, f, 3, 2, 1, 0)
}

// 4.1: what there is not can't be given back, whether others are taken or not.
func TestGiveWhatThereIsNot(t *testing.T) {
	for _, n := range []int{0, 1, 2, 5, api.MostFree} {
		f := free.New(n)
		want := upTo(n)
		for {
			for _, i := range beyond(n) {
				if f.Give(i) {
					t.Errorf("Give of %d of %d", i, n)
				}
			}
			holds(t, f, n, want...)
			if len(want) == 0 {
				break
			}
			// By halves, as the most are many.
			many := (len(want) + 1) / 2
			takes(t, f, want[:many]...)
			want = want[many:]
		}
		takesNone(t, f)
	}
}

// 4.1: each order of few calls, against a plain list.
func TestAllOrders(t *testing.T) {
	// A call is -1 (Take), or the number that is given back: one beyond among them.
	for n, calls := range []int{9, 9, 8, 7} {
		walk(t, n, nil, calls)
	}
}

// walk goes on from some calls with each further one.
func walk(t *testing.T, n int, calls []int, left int) {
	play(t, n, calls)
	if left == 0 {
		return
	}
	for c := -1; c <= n; c++ {
		walk(t, n, append(slices.Clone(calls), c), left-1)
	}
}

// play holds the last of some calls against a plain list.
func play(t *testing.T, n int, calls []int) {
	t.Helper()
	f, want := free.New(n), upTo(n)
	for _, c := range calls {
		want = call(t, f, n, want, c)
	}
	holds(t, f, n, want...)
}

// call does one call, and tells what can be taken behind it.
func call(t *testing.T, f *free.Free, n int, want []int, c int) []int {
	t.Helper()
	if c == -1 {
		if len(want) == 0 {
			takesNone(t, f)
			return want
		}
		takes(t, f, want[0])
		return want[1:]
	}
	ok := c < n && !slices.Contains(want, c)
	if f.Give(c) != ok {
		t.Fatalf("Give of %d, where %v of %d can be taken: not %v", c, want, n, ok)
	}
	if ok {
		want = append(slices.Clone(want), c)
	}
	return want
}

// 4.1: very many calls, drawn by a rule, against a plain list.
func TestLong(t *testing.T) {
	for _, n := range []int{1, 7, 40} {
		f, want, x := free.New(n), upTo(n), uint64(n)
		for range 20000 {
			x = x*6364136223846793005 + 1442695040888963407
			c := -1
			if x>>62 != 0 {
				c = int(x>>33) % (n + 1)
			}
			want = call(t, f, n, want, c)
			holds(t, f, n, want...)
		}
	}
	f := free.New(api.MostFree)
	for round := range 5 * api.MostFree {
		n := round % api.MostFree
		takes(t, f, n)
		gives(t, f, n)
	}
	holds(t, f, api.MostFree, upTo(api.MostFree)...)
}

// 4.1: each has its own numbers.
func TestTwo(t *testing.T) {
	f, g := free.New(3), free.New(3)
	takes(t, f, 0, 1)
	holds(t, g, 3, 0, 1, 2)
	if g.Give(0) {
		t.Error("Give of what another one took")
	}
	takes(t, g, 0)
	gives(t, f, 1)
	holds(t, f, 3, 2, 1)
	holds(t, g, 3, 1, 2)
}

// 4.1: of none there is nothing, and of a plain one.
func TestNone(t *testing.T) {
	for _, f := range []*free.Free{nil, {}} {
		holds(t, f, 0)
		takesNone(t, f)
		for _, n := range append(beyond(0), 0, 1) {
			if f.Give(n) || f.Has(n) {
				t.Errorf("there is %d", n)
			}
		}
		holds(t, f, 0)
	}
}

// R2: an answer is the caller's own, and stays as it was.
func TestAllIsTheCallers(t *testing.T) {
	f := free.New(4)
	l := f.All()
	for i := range l {
		l[i] = 9
	}
	_ = append(l[:1], 8, 8, 8)
	holds(t, f, 4, 0, 1, 2, 3)
	takes(t, f, 0, 1)
	l = f.All()
	_ = append(l, 7)
	gives(t, f, 1, 0)
	takes(t, f, 2)
	if !slices.Equal(l, []int{2, 3}) {
		t.Errorf("the answer is now %v", l)
	}
	holds(t, f, 4, 3, 1, 0)
}
