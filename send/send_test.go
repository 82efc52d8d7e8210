package send_test

import (
	"math"
	"slices"
	"testing"

	"cableway/api"
	"cableway/arena"
	"cableway/ring"
	"cableway/send"
)

var powers = []int{2, 4, 8, 16, 32, 64}

// turns are turns near 0, near powers of 2, and near the last one that there is.
var turns = []uint64{
	0, 1, 2, 3, 4, 5, 7, 63, 64, 65, 1000, 1<<32 - 1, 1 << 32, 1<<63 - 1, 1 << 63, 1<<63 + 1,
	math.MaxUint64 - 64, math.MaxUint64 - 1, math.MaxUint64,
}

// bad are rings that may not be.
var bad = []api.Ring{
	{}, {Base: 5}, {Places: -2}, {Places: 1}, {Places: 3}, {Places: 63}, {Places: 65}, {Places: 128},
	{Places: math.MinInt}, {Places: math.MaxInt}, {Places: 1 << 62}, {Base: -1, Places: 2}, {Base: math.MinInt, Places: 64},
	{Base: math.MaxInt, Places: 2}, {Base: 1<<14 - 8, Places: 2}, {Base: 1 << 14, Places: 2}, {Base: 1<<14 - 256, Places: 64},
}

// some are words to send; no two of all are alike.
var some = api.Words{1<<63 | 5, 1<<62 | 6, 1<<61 | 7}

// rings are rings that may be: of each number of places, at the first cells, elsewhere, and at the last ones.
func rings() []api.Ring {
	var l []api.Ring
	for _, places := range powers {
		for _, base := range []int{0, 1, 1000, 1<<14 - 1 - 4*places} {
			l = append(l, api.Ring{Base: base, Places: places})
		}
	}
	return l
}

// at is the cell that tells how a turn's place stands, worked out by a sum.
func at(r api.Ring, turn uint64) int { return r.Base + 1 + 4*int(turn%uint64(r.Places)) }

// empty is cells, of which none is as another, with a ring that is empty from a turn on.
func empty(r api.Ring, turn uint64) *arena.Arena {
	a := arena.New(min(r.Base+4*r.Places+6, 1<<14))
	for cell := range a.Len() {
		a.Write(cell, 1<<40+uint64(cell)*1001)
	}
	a.Write(r.Base, turn)
	for i := range uint64(r.Places) {
		a.Write(at(r, turn+i), turn+i)
	}
	return a
}

// all is what each cell has.
func all(a *arena.Arena) []uint64 {
	var l []uint64
	for cell := range a.Len() {
		l = append(l, a.Look(cell))
	}
	return l
}

// change is what a step does: the cell that it touches, and what that has behind it.
type change struct {
	cell int
	w    uint64
}

// step does a step, and looks whether it touches just that cell (so that no other is changed), and lets it have that.
func step(t *testing.T, a *arena.Arena, task send.Task, c change) send.Task {
	t.Helper()
	a.Begin()
	next := task.Step(a)
	if l := a.Touched(); !slices.Equal(l, []int{c.cell}) || a.Stray() != 0 {
		t.Fatalf("it touches %v, and %d others, not %d", l, a.Stray(), c.cell)
	}
	if got := a.Look(c.cell); got != c.w {
		t.Fatalf("cell %d has %d, not %d", c.cell, got, c.w)
	}
	return next
}

// read does a step that changes nothing.
func read(t *testing.T, a *arena.Arena, task send.Task, cell int) send.Task {
	t.Helper()
	return step(t, a, task, change{cell, a.Look(cell)})
}

// stands looks what a task tells of itself.
func stands(t *testing.T, task send.Task, turn uint64, claimed bool, err api.Errno, done bool) {
	t.Helper()
	if e, d := task.Done(); e != err || d != done {
		t.Fatalf("Done: %d, %v", e, d)
	}
	if task.Turn() != turn || task.Claimed() != claimed {
		t.Fatalf("Turn: %d, Claimed: %v", task.Turn(), task.Claimed())
	}
}

// written does the steps of a task whose place is its own, to its end.
func written(t *testing.T, a *arena.Arena, task send.Task, r api.Ring, turn uint64, w api.Words) send.Task {
	t.Helper()
	for i, word := range w {
		task = step(t, a, task, change{at(r, turn) + 1 + i, word})
		stands(t, task, turn, true, api.OK, false)
	}
	task = step(t, a, task, change{at(r, turn), turn + 1})
	stands(t, task, turn, true, api.OK, true)
	return task
}

// sends does the seven steps of a task that none is in the way of.
func sends(t *testing.T, a *arena.Arena, task send.Task, r api.Ring, turn uint64, w api.Words) send.Task {
	t.Helper()
	stands(t, task, 0, false, api.OK, false)
	task = read(t, a, task, r.Base)
	stands(t, task, turn, false, api.OK, false)
	task = read(t, a, task, at(r, turn))
	stands(t, task, turn, false, api.OK, false)
	task = step(t, a, task, change{r.Base, turn + 1})
	stands(t, task, turn, true, api.OK, false)
	return written(t, a, task, r, turn, w)
}

// 7.1: the document's example, by hand.
func TestExample(t *testing.T) {
	r := api.Ring{Places: 2}
	a := arena.New(9)
	ring.Init(a, r)
	task, n := send.New(r, api.Words{7, 8, 9}), 0
	for ; n < 100; n++ {
		if _, done := task.Done(); done {
			break
		}
		task = task.Step(a)
	}
	if n != 7 {
		t.Errorf("%d steps", n)
	}
	if l := all(a); !slices.Equal(l, []uint64{1, 1, 7, 8, 9, 1, 0, 0, 0}) {
		t.Errorf("cells: %v", l)
	}
	if !ring.Ready(a, r, 0) || ring.Open(a, r, 0) || ring.Held(a, r, 0) != 1 {
		t.Error("no frame is there")
	}
	stands(t, task, 0, true, api.OK, true)
}

// 7.1: into an empty ring, from each turn on: seven steps, each of which touches one cell.
func TestNew(t *testing.T) {
	for _, r := range rings() {
		for _, turn := range turns {
			sends(t, empty(r, turn), send.New(r, some), r, turn, some)
		}
	}
}

// 7.1: one behind the other, till there is no room.
func TestNewTillFull(t *testing.T) {
	for _, places := range powers {
		for _, first := range turns {
			last := first + uint64(places)
			if last < first {
				continue // there are no such turns
			}
			r := api.Ring{Base: 3, Places: places}
			a := empty(r, first)
			for i := range uint64(places) {
				w := api.Words{i, i + 100, i + 1000}
				sends(t, a, send.New(r, w), r, first+i, w)
			}
			if got := ring.Held(a, r, first); got != places {
				t.Fatalf("%d places from %d on: %d are there", places, first, got)
			}
			task := read(t, a, send.New(r, some), r.Base)
			task = read(t, a, task, at(r, last))
			stands(t, task, last, false, api.ErrFull, true)
		}
	}
}

// 7.1: the place stands below the turn, by however much: ErrFull behind two steps, and nothing is written.
func TestBelow(t *testing.T) {
	for _, r := range rings() {
		for _, turn := range turns {
			size := uint64(r.Places)
			for _, n := range []uint64{turn - 1, turn - size, turn - size + 1, turn - 2*size, turn ^ 1<<63, turn / 2, 0} {
				if n >= turn {
					continue
				}
				a := empty(r, turn)
				a.Write(at(r, turn), n)
				task := read(t, a, send.New(r, some), r.Base)
				task = read(t, a, task, at(r, turn))
				stands(t, task, turn, false, api.ErrFull, true)
			}
		}
	}
}

// 7.1: the place stands above the turn, by however much: from the beginning, and nothing is written.
func TestAbove(t *testing.T) {
	for _, r := range rings() {
		for _, turn := range turns {
			size := uint64(r.Places)
			for _, n := range []uint64{turn + 1, turn + 2, turn + size, turn + size + 1, turn ^ 1<<63, math.MaxUint64} {
				if n <= turn {
					continue
				}
				a := empty(r, turn)
				a.Write(at(r, turn), n)
				begun := send.New(r, some)
				task := read(t, a, begun, r.Base)
				task = read(t, a, task, at(r, turn))
				stands(t, task, 0, false, api.OK, false)
				if task != begun {
					t.Fatalf("%+v, turn %d stands at %d: not from the beginning", r, turn, n)
				}
				// Nobody came meanwhile: the same once more; then somebody did.
				task = read(t, a, read(t, a, task, r.Base), at(r, turn))
				a.Write(r.Base, turn+1)
				sends(t, a, task, r, turn+1, some)
			}
		}
	}
}

// 7.1: who has the turn first has it; the other one begins again, and has the next one.
func TestSwapFails(t *testing.T) {
	for _, r := range rings() {
		for _, turn := range turns {
			if turn == math.MaxUint64 {
				continue
			}
			a := empty(r, turn)
			w := api.Words{3, 2, 1}
			begun := send.New(r, some)
			late := read(t, a, begun, r.Base)
			late = read(t, a, late, at(r, turn))
			early := read(t, a, send.New(r, w), r.Base)
			early = read(t, a, early, at(r, turn))
			early = step(t, a, early, change{r.Base, turn + 1})
			late = read(t, a, late, r.Base)
			stands(t, late, 0, false, api.OK, false)
			if late != begun {
				t.Fatalf("%+v, turn %d: not from the beginning", r, turn)
			}
			late = sends(t, a, late, r, turn+1, some)
			if ring.Ready(a, r, turn) || !ring.Ready(a, r, turn+1) {
				t.Fatalf("%+v, turn %d: the late one's frame alone is not there", r, turn)
			}
			written(t, a, early, r, turn, w)
			if ring.Held(a, r, turn) != 2 {
				t.Fatalf("%+v, turn %d: not both are there", r, turn)
			}
		}
	}
}

// 7.1: the swap is from the turn alone: at any other one it fails.
func TestSwapFromTurn(t *testing.T) {
	r := api.Ring{Base: 2, Places: 4}
	for _, turn := range turns {
		for _, other := range []uint64{turn - 1, turn + 1, turn + 4, turn - 4, turn ^ 1<<32, turn ^ 1<<63} {
			a := empty(r, turn)
			begun := send.New(r, some)
			task := read(t, a, begun, r.Base)
			task = read(t, a, task, at(r, turn))
			a.Write(r.Base, other)
			if task = read(t, a, task, r.Base); task != begun {
				t.Errorf("turn %d, and the next one is %d: not from the beginning", turn, other)
			}
		}
	}
}

// 7.1: a place that was found empty is not looked at once more: what it stands at behind that changes nothing.
func TestFoundEmpty(t *testing.T) {
	r := api.Ring{Base: 2, Places: 4}
	a := empty(r, 6)
	task := read(t, a, send.New(r, some), r.Base)
	task = read(t, a, task, at(r, 6))
	a.Write(at(r, 6), 99)
	task = step(t, a, task, change{r.Base, 7})
	written(t, a, task, r, 6, some)
}

// 7.1: a lone one has its turn, and five steps; what the first cell tells is nothing to it, and stays.
func TestLone(t *testing.T) {
	for _, r := range rings() {
		for _, turn := range turns {
			for _, next := range []uint64{turn, turn + 1, 0, 77} {
				a := empty(r, turn)
				a.Write(r.Base, next)
				task := send.Lone(r, some, turn)
				stands(t, task, turn, false, api.OK, false)
				task = read(t, a, task, at(r, turn))
				stands(t, task, turn, true, api.OK, false)
				written(t, a, task, r, turn, some)
				if !ring.Ready(a, r, turn) {
					t.Fatalf("%+v, turn %d: it is not there", r, turn)
				}
			}
		}
	}
}

// 7.1: a lone one's place is not empty for it, below or above: ErrFull behind one step.
func TestLoneFull(t *testing.T) {
	for _, r := range rings() {
		for _, turn := range turns {
			size := uint64(r.Places)
			for _, n := range []uint64{
				turn - 1, turn + 1, turn - size, turn - size + 1, turn + size, turn + size + 1, turn ^ 1<<63, turn ^ 1<<32,
			} {
				a := empty(r, turn)
				a.Write(at(r, turn), n)
				task := read(t, a, send.Lone(r, some, turn), at(r, turn))
				stands(t, task, turn, false, api.ErrFull, true)
			}
		}
	}
}

// 7.1: lone ones, one behind the other, for all turns of some rounds; the place is fetched from meanwhile.
func TestLoneRounds(t *testing.T) {
	for _, places := range powers {
		r := api.Ring{Base: 9, Places: places}
		a := empty(r, 0)
		for turn := range uint64(3*places + 1) {
			w := api.Words{turn, turn * 3, turn * 7}
			written(t, a, read(t, a, send.Lone(r, w, turn), at(r, turn)), r, turn, w)
			if turn%2 == 1 {
				a.Write(at(r, turn-1), turn-1+uint64(places))
				a.Write(at(r, turn), turn+uint64(places))
			}
		}
	}
}

// 7.1: into a ring that may not be: ErrFull behind one step, that touches nothing.
func TestBadRing(t *testing.T) {
	for _, r := range bad {
		for _, turn := range turns {
			for _, c := range []struct {
				task send.Task
				turn uint64
			}{
				{send.New(r, some), 0}, {send.Lone(r, some, turn), turn}, {send.Task{}, 0},
			} {
				stands(t, c.task, c.turn, false, api.OK, false)
				for _, a := range []*arena.Arena{arena.New(1 << 14), arena.New(3), {}, nil} {
					want := all(a)
					a.Begin()
					next := c.task.Step(a)
					stands(t, next, c.turn, false, api.ErrFull, true)
					if len(a.Touched()) != 0 || a.Stray() != 0 || !slices.Equal(all(a), want) {
						t.Fatalf("%+v: touched: %v, %d", r, a.Touched(), a.Stray())
					}
				}
			}
		}
	}
}

// 7.1: what is done stays as it is, whatever the cells have.
func TestDoneStays(t *testing.T) {
	r := api.Ring{Base: 1, Places: 2}
	a := empty(r, 4)
	sent := sends(t, a, send.New(r, some), r, 4, some)
	lone := written(t, a, read(t, a, send.Lone(r, some, 5), at(r, 5)), r, 5, some)
	a.Write(r.Base, 6)
	full := read(t, a, read(t, a, send.New(r, some), r.Base), at(r, 6))
	alone := read(t, a, send.Lone(r, some, 7), at(r, 7))
	none := send.New(api.Ring{}, some).Step(a)
	for i, task := range []send.Task{sent, lone, full, alone, none} {
		if _, done := task.Done(); !done {
			t.Fatalf("%d is not done", i)
		}
		for _, b := range []*arena.Arena{a, empty(r, task.Turn()), empty(r, 0), {}, nil} {
			want := all(b)
			b.Begin()
			next := task
			for range 10 {
				next = next.Step(b)
			}
			if next != task || len(b.Touched()) != 0 || b.Stray() != 0 || !slices.Equal(all(b), want) {
				t.Errorf("%d: it does something", i)
			}
		}
	}
}

// 7.1: tasks are held against one another: the same behind the same steps, and another one for all that is another.
func TestHeldAgainst(t *testing.T) {
	r, s, o := api.Ring{Places: 2}, api.Ring{Places: 4}, api.Ring{Base: 1, Places: 2}
	w := api.Words{some[0], some[1], some[2] + 1}
	met := map[send.Task]int{}
	l := []send.Task{
		send.New(r, some), send.New(s, some), send.New(o, some), send.New(r, w), send.New(r, api.Words{}),
		send.Lone(r, some, 0), send.Lone(r, some, 1), send.Lone(s, some, 0), send.Lone(r, w, 0),
	}
	for i, task := range l {
		met[task] = i
	}
	if len(met) != len(l) {
		t.Errorf("%d of %d", len(met), len(l))
	}
	for i, task := range []send.Task{send.New(r, some), send.New(s, some)} {
		if k, ok := met[task]; !ok || k != i {
			t.Errorf("%d is not met again", i)
		}
	}
	for _, begin := range []func() send.Task{
		func() send.Task { return send.New(r, some) },
		func() send.Task { return send.Lone(r, some, 8) },
	} {
		one, two, a, b := begin(), begin(), empty(r, 8), empty(r, 8)
		behind := map[send.Task]bool{}
		for {
			if one != two {
				t.Fatal("the same steps do not come to the same")
			}
			if behind[one] {
				t.Fatal("a step that does something comes to what was met")
			}
			behind[one] = true
			if _, done := one.Done(); done {
				break
			}
			one, two = one.Step(a), two.Step(b)
		}
	}
}

// R2: a step changes no task: each of those met can be gone on with again.
func TestStepKeepsTask(t *testing.T) {
	r := api.Ring{Base: 4, Places: 8}
	for _, task := range []send.Task{send.New(r, some), send.Lone(r, some, 3)} {
		var met []send.Task
		var cells []*arena.Arena
		a := empty(r, 3)
		for done := false; !done; _, done = task.Done() {
			was := task
			met = append(met, task)
			b := arena.New(a.Len())
			for cell, w := range all(a) {
				b.Write(cell, w)
			}
			cells = append(cells, b)
			if task = task.Step(a); task == was || met[len(met)-1] != was {
				t.Fatal("the elder task is changed")
			}
		}
		for i, again := range met {
			for done := false; !done; _, done = again.Done() {
				again = again.Step(cells[i])
			}
			if again != task || !slices.Equal(all(cells[i]), all(a)) {
				t.Errorf("from the step %d on it comes to something else", i)
			}
		}
	}
}

// R2: words that were handed in may be changed later.
func TestWordsAreOwn(t *testing.T) {
	r := api.Ring{Places: 2}
	w := some
	n, l := send.New(r, w), send.Lone(r, w, 1)
	w[0], w[1], w[2] = 1, 2, 3
	a := empty(r, 0)
	sends(t, a, n, r, 0, some)
	written(t, a, read(t, a, l, at(r, 1)), r, 1, some)
}

// R1: in an arena that has not all of the ring's cells, or in none, each step ends, and touches or strays once at most.
func TestFewCells(t *testing.T) {
	r := api.Ring{Base: 2, Places: 4}
	l := []*arena.Arena{nil, {}}
	for n := 1; n <= 20; n++ {
		l = append(l, arena.New(n))
	}
	for _, a := range l {
		for _, turn := range turns {
			for _, task := range []send.Task{send.New(r, some), send.Lone(r, some, turn)} {
				for range 20 {
					a.Begin()
					task = task.Step(a)
					if len(a.Touched())+a.Stray() > 1 {
						t.Fatalf("%d cells: touched: %v, %d", a.Len(), a.Touched(), a.Stray())
					}
				}
			}
		}
	}
}

// 7.1: one's steps touch nothing of a ring beside its own.
func TestTwoRings(t *testing.T) {
	r, s := api.Ring{Base: 0, Places: 4}, api.Ring{Base: 17, Places: 2}
	a := arena.New(17 + 9)
	ring.Init(a, r)
	ring.Init(a, s)
	sends(t, a, send.New(s, some), s, 0, some)
	sends(t, a, send.New(r, some), r, 0, some)
	sends(t, a, send.New(s, some), s, 1, some)
	if ring.Held(a, r, 0) != 1 || ring.Held(a, s, 0) != 2 {
		t.Error("not what was sent is there")
	}
}

// fetched takes the frame of a turn at once; false: it is not there.
func fetched(a *arena.Arena, r api.Ring, turn uint64) (api.Words, bool) {
	if !ring.Ready(a, r, turn) {
		return api.Words{}, false
	}
	var w api.Words
	for i := range w {
		w[i] = a.Look(ring.Data(r, turn, i))
	}
	a.Write(ring.Stand(r, turn), turn+uint64(r.Places))
	return w, true
}

// world is how some senders, their ring of two places, and what was fetched from it stand.
type world struct {
	cells [9]uint64
	tasks [3]send.Task
	head  uint64
	got   [3]uint64 // the first words of what was fetched
}

// arena is an arena with what the cells of a world have; back is the world with what they have there then.
func (w world) arena() *arena.Arena {
	a := arena.New(len(w.cells))
	for cell, n := range w.cells {
		a.Write(cell, n)
	}
	return a
}

func (w world) back(a *arena.Arena) world {
	copy(w.cells[:], all(a))
	return w
}

// fetch fetches what is next in a world, whole; false: there is nothing, or frames are torn.
func (w world) fetch(t *testing.T, r api.Ring) (world, bool) {
	t.Helper()
	a := w.arena()
	f, ok := fetched(a, r, w.head)
	if !ok {
		return w, false
	}
	if f[1] != f[0]+10 || f[2] != f[0]+20 {
		t.Fatalf("torn: %v", f)
	}
	w.got[w.head] = f[0]
	w.head++
	return w.back(a), true
}

// over looks at a world in which all senders are done: what they sent is there, once each, by their turns.
func (w world) over(t *testing.T, r api.Ring, senders int) {
	t.Helper()
	for more := true; more; {
		w, more = w.fetch(t, r)
	}
	well := uint64(0)
	for i, task := range w.tasks[:senders] {
		if err, _ := task.Done(); err == api.OK {
			well++
			if !task.Claimed() || task.Turn() >= w.head || w.got[task.Turn()] != uint64(i+1) {
				t.Fatalf("the sender %d's frame is not there: %v", i, w.got)
			}
		} else if senders <= 2 || task.Claimed() {
			t.Fatalf("the sender %d had room", i)
		}
	}
	if well != w.head || well < 2 && senders >= 2 {
		t.Fatalf("%d are sent, %d fetched", well, w.head)
	}
}

// 7.1: in all orders of steps of some who send into a ring of two places, and of fetchings, what is sent is there once, whole.
func TestOrders(t *testing.T) {
	r := api.Ring{Places: 2}
	for senders := 1; senders <= 3; senders++ {
		a := arena.New(9)
		ring.Init(a, r)
		first := world{}.back(a)
		for i := range senders {
			n := uint64(i + 1)
			first.tasks[i] = send.New(r, api.Words{n, n + 10, n + 20})
		}
		met, ends := map[world]int{first: 0}, 0
		note := func(l []world, w world) []world {
			if _, ok := met[w]; !ok {
				met[w] = len(met)
				l = append(l, w)
			}
			return l
		}
		for l := []world{first}; len(l) > 0; {
			w := l[len(l)-1]
			l = l[:len(l)-1]
			going := 0
			for i, task := range w.tasks[:senders] {
				if _, done := task.Done(); done {
					continue
				}
				going++
				next, b := w, w.arena()
				next.tasks[i] = task.Step(b)
				l = note(l, next.back(b))
			}
			if next, ok := w.fetch(t, r); ok {
				l = note(l, next)
			}
			if going == 0 {
				ends++
				w.over(t, r, senders)
			}
		}
		if ends == 0 {
			t.Errorf("%d senders: no end", senders)
		}
	}
}

// 7.1: four send frame behind frame into one ring, in an order drawn by a rule: each one's come, once, in its order.
func TestPassing(t *testing.T) {
	seed := uint64(5)
	draw := func(n int) int {
		seed = seed*6364136223846793005 + 1442695040888963407
		return int(seed >> 33 % uint64(n))
	}
	for _, places := range powers {
		r := api.Ring{Base: 2, Places: places}
		a := empty(r, 0)
		var tasks [4]send.Task
		var sent, got [4]uint64
		head, full := uint64(0), 0
		begin := func(i int) { tasks[i] = send.New(r, api.Words{uint64(i), sent[i], uint64(i) * sent[i]}) }
		for i := range tasks {
			begin(i)
		}
		for n := range 20000 {
			i := draw(4)
			tasks[i] = tasks[i].Step(a)
			if err, done := tasks[i].Done(); done {
				if err == api.OK {
					sent[i]++
				} else {
					full++
				}
				begin(i)
			}
			// Little is fetched for a while, and then much, so that it comes to be full and empty.
			if draw(20) < 1+n/2000%2*6 {
				w, ok := fetched(a, r, head)
				if !ok {
					continue
				}
				if head++; w[1] != got[w[0]] || w[2] != w[0]*w[1] {
					t.Fatalf("%d places: %v comes, %v came", places, w, got)
				}
				got[w[0]]++
			}
		}
		if sum := sent[0] + sent[1] + sent[2] + sent[3]; full == 0 || head < 10*uint64(places) || sum > head+uint64(places) {
			t.Errorf("%d places: %d sent, %d fetched, %d times full", places, sum, head, full)
		}
	}
}
