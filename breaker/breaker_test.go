package breaker_test

import (
	"math"
	"testing"

	"cableway/api"
	"cableway/breaker"
)

const (
	never = api.Never
	shut  = api.BreakerShut
	open  = api.BreakerOpen
	half  = api.BreakerHalf
)

// wide is a rule whose window holds all that happens in these tests.
func wide(least, part int, cool api.Tick, trials int) api.Break {
	return api.Break{Buckets: 16, Width: 1 << 20, Least: least, Part: part, Cool: cool, Trials: trials}
}

// stands fails where a breaker stands another way.
func stands(t *testing.T, b *breaker.Breaker, now api.Tick, want int) {
	t.Helper()
	if got := b.State(now); got != want {
		t.Errorf("at %d it is %d, not %d", now, got, want)
	}
}

// goes fails where a call may go, or not, another way.
func goes(t *testing.T, b *breaker.Breaker, now api.Tick, want bool) {
	t.Helper()
	if got := b.May(now); got != want {
		t.Errorf("at %d one may go: %v, not %v", now, got, want)
	}
}

// counted fails where other things are counted.
func counted(t *testing.T, b *breaker.Breaker, now api.Tick, well, ill int) {
	t.Helper()
	if got := b.Counts(now); got != (api.Counts{Well: well, Ill: ill}) {
		t.Errorf("at %d: %d went well, %d ill; not %d and %d", now, got.Well, got.Ill, well, ill)
	}
}

// notes notes what happened, letter by letter: w went well, i ill.
func notes(b *breaker.Breaker, now api.Tick, things string) {
	for _, c := range things {
		b.Note(now, c == 'w')
	}
}

// opened is a breaker that opened at a time.
func opened(t *testing.T, now, cool api.Tick, trials int) *breaker.Breaker {
	t.Helper()
	b := breaker.New(wide(1, 100, cool, trials))
	b.Note(now, false)
	stands(t, b, now, open)
	return b
}

// 17.1: the document's example: of Least 1 and Part 100 one that went ill opens it.
func TestExample(t *testing.T) {
	b := breaker.New(api.Break{Buckets: 2, Width: 4, Least: 1, Part: 100, Cool: 5, Trials: 1})
	stands(t, b, 0, shut)
	goes(t, b, 0, true)
	b.Note(0, true)
	b = breaker.New(api.Break{Buckets: 2, Width: 4, Least: 1, Part: 100, Cool: 5, Trials: 1})
	b.Note(0, false)
	stands(t, b, 0, open)
	goes(t, b, 0, false)
}

// 17.1: the names' numbers are those that are given.
func TestNumbers(t *testing.T) {
	if shut != 0 || open != 1 || half != 2 {
		t.Fatal("other numbers")
	}
}

// 17.1: it opens with the thing by which Least things happened and Part of 100 went ill, not ahead of it.
func TestOpens(t *testing.T) {
	for _, c := range []struct {
		least, part int
		things      string // it opens at the last one
	}{
		{1, 1, "i"}, {1, 100, "i"}, {2, 100, "ii"}, {3, 100, "iii"}, {5, 1, "wwwwi"}, {5, 20, "wwwwi"},
		{1, 50, "wi"}, {2, 50, "iw"}, {4, 50, "iiww"}, {4, 50, "wwii"}, {4, 75, "iiiw"}, {4, 75, "iwii"},
		{3, 66, "wii"}, {3, 67, "wiii"}, {3, 34, "wwii"}, {3, 33, "wwi"}, {1, 60, "wwiii"}, {1, 99, "i"},
		{4, 25, "iwww"}, {6, 50, "iiiwww"}, {1, 67, "wwiiiii"}, {2, 1, "iw"}, {10, 10, "iwwwwwwwww"},
	} {
		b := breaker.New(wide(c.least, c.part, 5, 1))
		for i, thing := range c.things {
			stands(t, b, 3, shut)
			goes(t, b, 3, true)
			counted(t, b, 3, well(c.things[:i]), i-well(c.things[:i]))
			b.Note(3, thing == 'w')
		}
		if b.State(3) != open || b.May(3) {
			t.Errorf("least %d, part %d, %s: it is not open", c.least, c.part, c.things)
		}
	}
}

// well is how many of such things went well.
func well(things string) int {
	n := 0
	for _, c := range things {
		if c == 'w' {
			n++
		}
	}
	return n
}

// 17.1: it stays shut, where fewer things happened, or less of them went ill.
func TestStaysShut(t *testing.T) {
	for _, c := range []struct {
		least, part int
		things      string
	}{
		{2, 1, "i"}, {3, 50, "ii"}, {10, 1, "iiiiiiiii"}, {2, 51, "wi"}, {2, 51, "wwii"}, {1, 50, "wwi"},
		{1, 100, "wiiiiiiiiiii"}, {4, 76, "wiii"}, {4, 67, "wii"}, {10, 11, "iwwwwwwwww"}, {1, 1, "wwwwwwww"}, {1, 34, "wwi"},
	} {
		b := breaker.New(wide(c.least, c.part, 5, 1))
		notes(b, 3, c.things)
		stands(t, b, 3, shut)
		goes(t, b, 3, true)
		counted(t, b, 3, well(c.things), len(c.things)-well(c.things))
	}
}

// 17.1: all shares of up to twelve things, at each part: ill by all, of 100.
func TestShares(t *testing.T) {
	for all := 1; all <= 12; all++ {
		for ill := 0; ill <= all; ill++ {
			for part := 1; part <= 100; part++ {
				b := breaker.New(wide(all, part, 5, 1))
				for range ill {
					b.Note(0, false)
				}
				for range all - ill {
					b.Note(0, true)
				}
				want := shut
				if float64(ill)/float64(all)*100 >= float64(part)-1e-9 {
					want = open
				}
				stands(t, b, 0, want)
			}
		}
	}
}

// 17.1: only what happened in the window counts, for how many and for what part of them.
func TestLately(t *testing.T) {
	rule := api.Break{Buckets: 2, Width: 4, Least: 2, Part: 50, Cool: 5, Trials: 1}
	b := breaker.New(rule)
	b.Note(3, false)
	b.Note(8, false) // that of 3 counts no more
	stands(t, b, 8, shut)
	counted(t, b, 8, 0, 1)
	b.Note(12, false)
	stands(t, b, 12, open)

	b = breaker.New(rule)
	notes(b, 0, "wwwwww")
	b.Note(7, false)
	stands(t, b, 7, shut)
	b.Note(8, true) // those of 0 count no more: it is one of two
	stands(t, b, 8, open)
}

// 17.1: time alone opens nothing, also where only ill things are left to count.
func TestTimeOpensNothing(t *testing.T) {
	b := breaker.New(api.Break{Buckets: 2, Width: 4, Least: 1, Part: 100, Cool: 5, Trials: 1})
	b.Note(0, true)
	b.Note(4, false)
	for now := api.Tick(4); now < 20; now++ {
		stands(t, b, now, shut)
		goes(t, b, now, true)
	}
}

// 17.1: the window has the rule's buckets and width, and their limits.
func TestWindow(t *testing.T) {
	for _, c := range []struct {
		buckets int
		width   api.Tick
		last    api.Tick // the last time at which what happened at 0 counts
	}{
		{1, 1, 0}, {2, 1, 1}, {2, 4, 7}, {16, 3, 47}, {17, 3, 47}, {0, 5, 4}, {-1, 5, 4}, {3, 0, 2}, {3, -7, 2},
		{math.MaxInt, 1, 15}, {math.MinInt, 1, 0},
	} {
		b := breaker.New(api.Break{Buckets: c.buckets, Width: c.width, Least: 100, Part: 1, Cool: 1, Trials: 1})
		b.Note(0, false)
		b.Note(0, true)
		counted(t, b, c.last, 1, 1)
		counted(t, b, c.last+1, 0, 0)
	}
}

// 17.1: when it opens the window is cleared; while it is open nothing is noted.
func TestOpenNotesNothing(t *testing.T) {
	b := breaker.New(wide(3, 50, 10, 1))
	notes(b, 0, "wi")
	counted(t, b, 0, 1, 1)
	b.Note(1, false)
	counted(t, b, 1, 0, 0)
	for now := api.Tick(1); now < 11; now++ {
		notes(b, now, "wiwii")
		counted(t, b, now, 0, 0)
		stands(t, b, now, open)
		goes(t, b, now, false)
	}
	stands(t, b, 11, half) // what happened while it was open does not keep it open for longer
	goes(t, b, 11, true)
}

// 17.1: it is open for Cool ticks, then half open.
func TestCool(t *testing.T) {
	for _, at := range []api.Tick{0, 1, 7, 1000} {
		for cool := api.Tick(1); cool <= 20; cool++ {
			b := opened(t, at, cool, 1)
			for now := at; now < at+cool; now++ {
				stands(t, b, now, open)
				goes(t, b, now, false)
			}
			stands(t, b, at+cool, half)
			b = opened(t, at, cool, 1)
			goes(t, b, at+cool, true)
			b = opened(t, at, cool, 1)
			b.Note(at+cool-1, true)
			counted(t, b, at+cool-1, 0, 0)
			b = opened(t, at, cool, 1)
			stands(t, b, at+cool+1000, half)
			b = opened(t, at, cool, 1)
			stands(t, b, never, half)
		}
	}
}

// 17.1: Cool is one tick at least; one that ends at Never, or beyond it, does not end.
func TestCoolEdges(t *testing.T) {
	for _, cool := range []api.Tick{1, 0, -1, -never, math.MinInt64} {
		b := opened(t, 5, cool, 1)
		goes(t, b, 5, false)
		stands(t, b, 6, half)
	}
	for _, c := range []struct{ at, cool api.Tick }{
		{0, never}, {0, never + 1}, {0, math.MaxInt64}, {5, never - 5}, {5, math.MaxInt64}, {never - 1, 1}, {never - 1, math.MinInt64},
		{never, 1}, {never + 1, 1}, {math.MaxInt64, 1}, {math.MaxInt64, math.MaxInt64},
	} {
		b := opened(t, c.at, c.cool, 1)
		for _, now := range []api.Tick{c.at, never - 1, never, never + 1, math.MaxInt64} {
			stands(t, b, now, open)
			goes(t, b, now, false)
		}
	}
	b := opened(t, 5, never-6, 1)
	stands(t, b, never-2, open)
	stands(t, b, never-1, half)
}

// 17.1: times below 0 count as 0, for when it opens, too.
func TestTimes(t *testing.T) {
	for _, at := range []api.Tick{0, -1, -5, math.MinInt64} {
		b := opened(t, at, 3, 1)
		stands(t, b, at, open)
		stands(t, b, 2, open)
		stands(t, b, 3, half)
	}
	b := opened(t, 0, 1, 1)
	stands(t, b, math.MinInt64, open)
	stands(t, b, math.MaxInt64, half)
}

// 17.1: half open, Trials calls may go, 1 at least, and no more of them, however late.
func TestTrials(t *testing.T) {
	for trials, want := range map[int]int{1: 1, 2: 2, 3: 3, 10: 10, 0: 1, -1: 1, math.MinInt: 1} {
		b := opened(t, 0, 5, trials)
		for i := range want {
			stands(t, b, 5+api.Tick(i), half)
			goes(t, b, 5+api.Tick(i), true)
		}
		for _, now := range []api.Tick{20, 21, 1000, never} {
			goes(t, b, now, false)
			stands(t, b, now, half)
		}
	}
	b := opened(t, 0, 5, math.MaxInt)
	for range 1000 {
		goes(t, b, 5, true)
		b.Note(5, true)
		stands(t, b, 5, half)
	}
}

// 17.1: asking how it stands takes no trial, and refusing gives none back.
func TestStateTakesNone(t *testing.T) {
	b := opened(t, 0, 5, 2)
	for range 10 {
		stands(t, b, 5, half)
		b.Counts(5)
	}
	goes(t, b, 5, true)
	for range 10 {
		stands(t, b, 6, half)
	}
	goes(t, b, 6, true)
	goes(t, b, 6, false)
	goes(t, b, 6, false)
}

// 17.1: half open, one that went ill opens it for Cool ticks from then on, with its trials anew and the window cleared.
func TestIllOpens(t *testing.T) {
	for went := range 4 {
		for ok := range went + 1 {
			b := opened(t, 0, 5, 4)
			for range went {
				goes(t, b, 7, true)
			}
			for range ok {
				b.Note(8, true)
			}
			stands(t, b, 8, half)
			b.Note(9, false)
			counted(t, b, 9, 0, 0)
			stands(t, b, 9, open)
			stands(t, b, 13, open)
			goes(t, b, 13, false)
			stands(t, b, 14, half)
			for range 4 {
				goes(t, b, 14, true)
			}
			goes(t, b, 14, false)
			notes(b, 15, "www")
			stands(t, b, 15, half)
			b.Note(15, true)
			stands(t, b, 15, shut)
		}
	}
}

// 17.1: half open, what went ill opens it, whatever Least and Part are.
func TestIllOpensAlways(t *testing.T) {
	b := breaker.New(wide(10, 90, 5, 3))
	notes(b, 0, "iiiiiiiiii")
	stands(t, b, 0, open)
	goes(t, b, 5, true)
	notes(b, 5, "w")
	stands(t, b, 5, half)
	notes(b, 5, "i")
	stands(t, b, 5, open)
}

// 17.1: it is shut when all that may go went and as many went well, not ahead of it.
func TestShuts(t *testing.T) {
	for trials := 1; trials <= 5; trials++ {
		b := opened(t, 0, 5, trials)
		for range trials {
			goes(t, b, 6, true)
		}
		for i := range trials {
			stands(t, b, 7, half)
			goes(t, b, 7, false)
			counted(t, b, 7, i, 0)
			b.Note(7, true)
		}
		stands(t, b, 7, shut)
		counted(t, b, 7, 0, 0) // and the window is cleared
		for range 20 {
			goes(t, b, 7, true)
		}
		// One behind the other.
		b = opened(t, 0, 5, trials)
		for range trials {
			stands(t, b, 7, half)
			goes(t, b, 7, true)
			stands(t, b, 7, half)
			b.Note(7, true)
		}
		stands(t, b, 7, shut)
	}
}

// 17.1: what goes well while none of those that went is out counts for none of them.
func TestLateOnes(t *testing.T) {
	b := opened(t, 0, 5, 2)
	notes(b, 5, "wwwww")
	stands(t, b, 5, half)
	goes(t, b, 6, true)
	b.Note(6, true)
	notes(b, 6, "wwwww") // the one that went is back
	stands(t, b, 6, half)
	goes(t, b, 7, true)
	goes(t, b, 7, false)
	stands(t, b, 7, half)
	b.Note(7, true)
	stands(t, b, 7, shut)

	b = opened(t, 0, 5, 1)
	b.Note(5, true)
	stands(t, b, 5, half)
	goes(t, b, 5, true)
	goes(t, b, 5, false)
	stands(t, b, 5, half)
	b.Note(5, true)
	stands(t, b, 5, shut)

	// One that comes while another is out can't be told from it.
	b = opened(t, 0, 5, 2)
	goes(t, b, 5, true)
	goes(t, b, 5, true)
	notes(b, 5, "ww")
	stands(t, b, 5, shut)
}

// 17.1: half open what goes well is in the window, till that is cleared.
func TestHalfCounts(t *testing.T) {
	b := breaker.New(api.Break{Buckets: 2, Width: 4, Least: 1, Part: 100, Cool: 4, Trials: 9})
	b.Note(0, false)
	counted(t, b, 4, 0, 0)
	goes(t, b, 4, true)
	b.Note(4, true)
	b.Note(4, true)
	counted(t, b, 4, 2, 0)
	b.Note(8, true)
	counted(t, b, 8, 3, 0)
	counted(t, b, 12, 1, 0)
	b.Note(12, false)
	counted(t, b, 12, 0, 0)
}

// 17.1: shut again, it opens as it did before.
func TestAgain(t *testing.T) {
	b := breaker.New(wide(2, 50, 5, 2))
	for now := api.Tick(0); now < 1000; now += 100 {
		notes(b, now, "w")
		stands(t, b, now, shut)
		notes(b, now, "i")
		stands(t, b, now, open)
		stands(t, b, now+4, open)
		goes(t, b, now+5, true)
		goes(t, b, now+5, true)
		goes(t, b, now+5, false)
		notes(b, now+6, "ww")
		stands(t, b, now+6, shut)
		notes(b, now+7, "w")
		counted(t, b, now+7, 1, 0)
		notes(b, now+7, "ww")
		goes(t, b, now+7, true)
		notes(b, now+8, "iii")
		stands(t, b, now+8, open)
		goes(t, b, now+13, true)
		goes(t, b, now+13, true)
		notes(b, now+13, "ww")
		stands(t, b, now+13, shut)
	}
}

// 17.1: Least is 1 at least: it is not opened by nothing, or by what went well.
func TestLeast(t *testing.T) {
	for _, least := range []int{1, 0, -1, math.MinInt} {
		b := breaker.New(wide(least, 1, 5, 1))
		stands(t, b, 0, shut)
		b.Note(0, true)
		stands(t, b, 0, shut)
		b.Note(0, false)
		stands(t, b, 0, open)
	}
	for _, least := range []int{1001, math.MaxInt} {
		b := breaker.New(wide(least, 1, 5, 1))
		for range 1000 {
			b.Note(0, false)
		}
		stands(t, b, 0, shut)
		counted(t, b, 0, 0, 1000)
	}
}

// 17.1: Part is from 1 to 100; others count as the nearest.
func TestPart(t *testing.T) {
	for _, part := range []int{1, 0, -1, -100, math.MinInt} {
		b := breaker.New(wide(100, part, 5, 1))
		for range 99 {
			b.Note(0, true)
		}
		b.Note(0, false)
		stands(t, b, 0, open)
		b = breaker.New(wide(1, part, 5, 1))
		for range 100 {
			b.Note(0, true)
		}
		b.Note(0, false)
		stands(t, b, 0, shut) // one of 101 is less than one of 100
		b.Note(0, true)
		stands(t, b, 0, shut)
		b.Note(0, false)
		stands(t, b, 0, open)
	}
	for _, part := range []int{100, 101, 1000, math.MaxInt} {
		b := breaker.New(wide(2, part, 5, 1))
		notes(b, 0, "ii")
		stands(t, b, 0, open)
		b = breaker.New(wide(1, part, 5, 1))
		notes(b, 0, "wiiiii")
		stands(t, b, 0, shut)
	}
}

// 17.1: what is half open once stays so, when an earlier time is told.
func TestEarlier(t *testing.T) {
	b := opened(t, 10, 5, 2)
	stands(t, b, 15, half)
	stands(t, b, 12, half)
	goes(t, b, 0, true)
	goes(t, b, 0, true)
	goes(t, b, 0, false)
	notes(b, 0, "ww")
	stands(t, b, 0, shut)

	b = opened(t, 10, 5, 1)
	stands(t, b, 3, open)
	stands(t, b, 15, half)
	b.Note(3, false) // it opens at 3
	stands(t, b, 7, open)
	stands(t, b, 8, half)
}

// plain is a breaker as what happened, thing by thing.
type plain struct {
	rule   api.Break
	state  int
	since  api.Tick
	tries  []bool // which of those that went half open are back
	latest api.Tick
	things []thing
}

type thing struct {
	bucket api.Tick
	well   bool
}

func nearest(t api.Tick) api.Tick { return min(max(t, 0), never) }

func newPlain(r api.Break) *plain {
	r.Buckets = min(max(r.Buckets, 1), 16)
	r.Width, r.Least, r.Cool, r.Trials = max(r.Width, 1), max(r.Least, 1), max(r.Cool, 1), max(r.Trials, 1)
	r.Part = min(max(r.Part, 1), 100)
	return &plain{rule: r}
}

func (p *plain) State(now api.Tick) int {
	if p.state == open && nearest(now)-p.since >= p.rule.Cool && p.since+nearest(p.rule.Cool) < never {
		p.state, p.tries = half, nil
	}
	return p.state
}

func (p *plain) May(now api.Tick) bool {
	if p.State(now) == half && len(p.tries) < p.rule.Trials {
		p.tries = append(p.tries, false)
		return true
	}
	return p.state == shut
}

func (p *plain) Counts(now api.Tick) api.Counts {
	p.latest = max(p.latest, nearest(now)/p.rule.Width)
	var c api.Counts
	for _, x := range p.things {
		switch {
		case p.latest-x.bucket >= api.Tick(p.rule.Buckets):
		case x.well:
			c.Well++
		default:
			c.Ill++
		}
	}
	return c
}

// back brings back one of those that are out, if there is one.
func (p *plain) back() {
	for i, is := range p.tries {
		if !is {
			p.tries[i] = true
			return
		}
	}
}

// whole tells whether all that may go went, and came back.
func (p *plain) whole() bool {
	for _, is := range p.tries {
		if !is {
			return false
		}
	}
	return len(p.tries) == p.rule.Trials
}

func (p *plain) Note(now api.Tick, well bool) {
	was := p.State(now)
	if was == open {
		return
	}
	c := p.Counts(now)
	p.things = append(p.things, thing{p.latest, well})
	all, ill := c.Well+c.Ill+1, c.Ill
	if !well {
		ill++
	}
	switch {
	case was == half && well:
		p.back()
		if p.whole() {
			p.state, p.things = shut, nil
		}
	case was == half, all >= p.rule.Least && 100*ill >= p.rule.Part*all:
		p.state, p.since, p.things = open, nearest(now), nil
	}
}

// same does a call of a breaker and of a plain one; false: they tell another thing.
func same(b *breaker.Breaker, p *plain, what int, now api.Tick) bool {
	switch what {
	case 0:
		return b.May(now) == p.May(now)
	case 1, 2:
		b.Note(now, what == 1)
		p.Note(now, what == 1)
	case 3:
		return b.State(now) == p.State(now)
	default:
		return b.Counts(now) == p.Counts(now)
	}
	return true
}

// 17.1: each order of seven calls, of rules near each other, while time goes on by one with each fourth kind.
func TestAllOrders(t *testing.T) {
	const calls, kinds = 7, 5
	orders := 1
	for range calls {
		orders *= kinds
	}
	for _, rule := range []api.Break{
		{Buckets: 2, Width: 2, Least: 1, Part: 50, Cool: 1, Trials: 1},
		{Buckets: 2, Width: 1, Least: 2, Part: 50, Cool: 1, Trials: 2},
		{Buckets: 1, Width: 3, Least: 1, Part: 100, Cool: 2, Trials: 2},
		{Buckets: 3, Width: 1, Least: 2, Part: 67, Cool: 1, Trials: 1},
	} {
		for order := range orders {
			b, p := breaker.New(rule), newPlain(rule)
			now := api.Tick(0)
			for i, rest := 0, order; i < calls; i, rest = i+1, rest/kinds {
				what := rest % kinds
				if what == 3 {
					now++
				}
				if !same(b, p, what, now) || b.Counts(now) != p.Counts(now) {
					t.Fatalf("%v, order %d, call %d: another answer", rule, order, i)
				}
			}
		}
	}
}

// 17.1: very many calls, drawn by a rule, of many rules.
func TestDrawn(t *testing.T) {
	seed := uint64(1)
	draw := func(n int) int {
		seed = seed*6364136223846793005 + 1442695040888963407
		return int(seed >> 33 % uint64(n))
	}
	for range 2000 {
		rule := api.Break{
			Buckets: draw(5), Width: api.Tick(draw(6)), Least: draw(6), Part: []int{-1, 0, 1, 20, 33, 50, 66, 67, 99, 100, 101}[draw(11)],
			Cool: api.Tick(draw(8)), Trials: draw(5),
		}
		b, p := breaker.New(rule), newPlain(rule)
		now := api.Tick(0)
		for i := range 200 {
			switch draw(30) {
			case 0:
				now -= api.Tick(draw(10))
			case 1:
				now += api.Tick(draw(40))
			default:
				now += api.Tick(draw(2))
			}
			what := []int{0, 0, 0, 1, 1, 1, 1, 2, 3, 4}[draw(10)]
			if !same(b, p, what, now) {
				t.Fatalf("%v: another answer at the call %d, at %d", rule, i, now)
			}
		}
	}
}

// 17.1: edges of all numbers of the rule, and of times.
func TestEdges(t *testing.T) {
	numbers := []int{math.MinInt, -1, 0, 1, 2, 16, 17, math.MaxInt}
	times := []api.Tick{math.MinInt64, -1, 0, 1, 2, never - 1, never, never + 1, math.MaxInt64}
	for _, n := range numbers {
		for _, m := range numbers {
			for _, width := range times {
				for _, cool := range times {
					rule := api.Break{Buckets: n, Width: width, Least: m, Part: n, Cool: cool, Trials: m}
					for i, at := range times {
						b, p := breaker.New(rule), newPlain(rule)
						then := times[(i+2)%len(times)]
						for _, c := range []struct {
							what int
							now  api.Tick
						}{{3, at}, {2, at}, {2, at}, {4, at}, {3, then}, {0, then}, {0, then}, {1, then}, {3, at}, {4, then}} {
							if !same(b, p, c.what, c.now) {
								t.Fatalf("%v at %d and %d: another answer", rule, at, then)
							}
						}
					}
				}
			}
		}
	}
}

// 17.1: of none: shut, true, 0; whatever is noted. A plain one has no window, and is as none.
func TestNone(t *testing.T) {
	for _, b := range []*breaker.Breaker{nil, {}} {
		for _, now := range []api.Tick{math.MinInt64, -1, 0, 1, 5, never - 1, never, never + 1, math.MaxInt64} {
			for range 3 {
				b.Note(now, false)
				b.Note(now, true)
				stands(t, b, now, shut)
				goes(t, b, now, true)
				counted(t, b, now, 0, 0)
			}
		}
	}
}

// 17.1: two breakers are two, and there is one for each rule.
func TestTwo(t *testing.T) {
	b, other := breaker.New(wide(1, 1, 5, 1)), breaker.New(wide(1, 1, 5, 1))
	b.Note(0, false)
	stands(t, b, 0, open)
	stands(t, other, 0, shut)
	counted(t, other, 0, 0, 0)
	if breaker.New(api.Break{}) == nil {
		t.Error("none of a plain rule")
	}
}
