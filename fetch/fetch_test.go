package fetch_test

import (
	"math"
	"slices"
	"testing"

	"cableway/api"
	"cableway/arena"
	"cableway/fetch"
	"cableway/ring"
	"cableway/send"
)

var powers = []int{2, 4, 8, 16, 32, 64}

// turns are turns near 0, near powers of 2, and near the last one that there is.
var turns = []uint64{
	0, 1, 2, 3, 4, 5, 7, 63, 64, 65, 1000, 1<<32 - 1, 1 << 32, 1<<63 - 1, 1 << 63, 1<<63 + 1,
	math.MaxUint64 - 64, math.MaxUint64 - 1, math.MaxUint64,
}

// bad are rings that may not be.
var bad = []api.Ring{
	{}, {Base: 5}, {Places: -2}, {Places: 1}, {Places: 3}, {Places: 63}, {Places: 65}, {Places: 128},
	{Places: math.MinInt}, {Places: math.MaxInt}, {Places: 1 << 62}, {Base: -1, Places: 2}, {Base: math.MinInt, Places: 64},
	{Base: math.MaxInt, Places: 2}, {Base: 1<<14 - 8, Places: 2}, {Base: 1 << 14, Places: 2}, {Base: 1<<14 - 256, Places: 64},
}

// some are words to fetch; no two of all are alike.
var some = api.Words{1<<63 | 5, 1<<62 | 6, 1<<61 | 7}

// rings are rings that may be: of each number of places, at the first cells, elsewhere, and at the last ones.
func rings() []api.Ring {
	var l []api.Ring
	for _, places := range powers {
		for _, base := range []int{0, 1, 1000, 1<<14 - 1 - 4*places} {
			l = append(l, api.Ring{Base: base, Places: places})
		}
	}
	return l
}

// at is the cell that tells how a turn's place stands, worked out by a sum.
func at(r api.Ring, turn uint64) int { return r.Base + 1 + 4*int(turn%uint64(r.Places)) }

// empty is cells, of which none is as another, with a ring that is empty from a turn on.
func empty(r api.Ring, turn uint64) *arena.Arena {
	a := arena.New(min(r.Base+4*r.Places+6, 1<<14))
	for cell := range a.Len() {
		a.Write(cell, 1<<40+uint64(cell)*1001)
	}
	a.Write(r.Base, turn)
	for i := range uint64(r.Places) {
		a.Write(at(r, turn+i), turn+i)
	}
	return a
}

// put lets a turn's frame be there at once.
func put(a *arena.Arena, r api.Ring, turn uint64, w api.Words) {
	for i, word := range w {
		a.Write(at(r, turn)+1+i, word)
	}
	a.Write(at(r, turn), turn+1)
}

// holding is what empty is, but that the turn's frame is there.
func holding(r api.Ring, turn uint64, w api.Words) *arena.Arena {
	a := empty(r, turn)
	a.Write(r.Base, turn+1)
	put(a, r, turn, w)
	return a
}

// all is what each cell has.
func all(a *arena.Arena) []uint64 {
	var l []uint64
	for cell := range a.Len() {
		l = append(l, a.Look(cell))
	}
	return l
}

// step does a step, and looks whether it touches just that cell (so that no other is changed), and lets it have that.
func step(t *testing.T, a *arena.Arena, task fetch.Task, cell int, w uint64) fetch.Task {
	t.Helper()
	a.Begin()
	next := task.Step(a)
	if l := a.Touched(); !slices.Equal(l, []int{cell}) || a.Stray() != 0 {
		t.Fatalf("it touches %v, and %d others, not %d", l, a.Stray(), cell)
	}
	if got := a.Look(cell); got != w {
		t.Fatalf("cell %d has %d, not %d", cell, got, w)
	}
	return next
}

// read does a step that changes nothing.
func read(t *testing.T, a *arena.Arena, task fetch.Task, cell int) fetch.Task {
	t.Helper()
	return step(t, a, task, cell, a.Look(cell))
}

// goes looks what a task tells of itself that is not done.
func goes(t *testing.T, task fetch.Task, begun bool) {
	t.Helper()
	if err, done := task.Done(); err != api.OK || done {
		t.Fatalf("Done: %d, %v", err, done)
	}
	if task.Begun() != begun || task.Words() != (api.Words{}) {
		t.Fatalf("Begun: %v, Words: %v", task.Begun(), task.Words())
	}
}

// ended looks what a task tells of itself that fetched these words; none looks what one tells that found no frame.
func ended(t *testing.T, task fetch.Task, w api.Words) {
	t.Helper()
	if err, done := task.Done(); err != api.OK || !done {
		t.Fatalf("Done: %d, %v", err, done)
	}
	if !task.Begun() || task.Words() != w {
		t.Fatalf("Begun: %v, Words: %v", task.Begun(), task.Words())
	}
}

func none(t *testing.T, task fetch.Task) {
	t.Helper()
	if err, done := task.Done(); err != api.ErrEmpty || !done {
		t.Fatalf("Done: %d, %v", err, done)
	}
	if task.Begun() || task.Words() != (api.Words{}) {
		t.Fatalf("Begun: %v, Words: %v", task.Begun(), task.Words())
	}
}

// rest does the steps of a task that found its frame, to its end.
func rest(t *testing.T, a *arena.Arena, task fetch.Task, r api.Ring, turn uint64, w api.Words) fetch.Task {
	t.Helper()
	goes(t, task, true)
	for i, word := range w {
		task = step(t, a, task, at(r, turn)+1+i, word)
		goes(t, task, true)
	}
	task = step(t, a, task, at(r, turn), turn+uint64(r.Places))
	ended(t, task, w)
	return task
}

// fetches does the five steps of a task whose frame is there.
func fetches(t *testing.T, a *arena.Arena, r api.Ring, turn uint64, w api.Words) fetch.Task {
	t.Helper()
	task := fetch.New(r, turn)
	goes(t, task, false)
	return rest(t, a, read(t, a, task, at(r, turn)), r, turn, w)
}

// finds does the one step of a task whose frame is not there.
func finds(t *testing.T, a *arena.Arena, r api.Ring, turn uint64) fetch.Task {
	t.Helper()
	task := fetch.New(r, turn)
	goes(t, task, false)
	task = read(t, a, task, at(r, turn))
	none(t, task)
	return task
}

// 8.1: the document's example, by hand; then of a frame that was sent.
func TestExample(t *testing.T) {
	r := api.Ring{Places: 2}
	a := arena.New(9)
	ring.Init(a, r)
	none(t, fetch.New(r, 0).Step(a))
	if l := all(a); !slices.Equal(l, []uint64{0, 0, 0, 0, 0, 1, 0, 0, 0}) {
		t.Errorf("cells of the empty one: %v", l)
	}
	s := send.New(r, api.Words{7, 8, 9})
	for range 7 {
		s = s.Step(a)
	}
	task, n := fetch.New(r, 0), 0
	for ; n < 100; n++ {
		if _, done := task.Done(); done {
			break
		}
		task = task.Step(a)
	}
	if n != 5 {
		t.Errorf("%d steps", n)
	}
	ended(t, task, api.Words{7, 8, 9})
	if l := all(a); !slices.Equal(l, []uint64{1, 2, 7, 8, 9, 1, 0, 0, 0}) {
		t.Errorf("cells: %v", l)
	}
	if ring.Ready(a, r, 0) || !ring.Open(a, r, 2) || ring.Held(a, r, 0) != 0 {
		t.Error("the frame is there still")
	}
}

// 8.1: each turn's frame, from each ring: five steps, each of which touches one cell.
func TestNew(t *testing.T) {
	for _, r := range rings() {
		for _, turn := range turns {
			for _, w := range []api.Words{some, {}, {0, 1, 0}, {math.MaxUint64, math.MaxUint64, math.MaxUint64}} {
				a := holding(r, turn, w)
				fetches(t, a, r, turn, w)
				if ring.Ready(a, r, turn) || !ring.Open(a, r, turn+uint64(r.Places)) {
					t.Fatalf("%+v, turn %d: its place is not empty", r, turn)
				}
				finds(t, a, r, turn)
			}
		}
	}
}

// 8.1: of an empty ring: ErrEmpty behind one step.
func TestEmpty(t *testing.T) {
	for _, r := range rings() {
		for _, turn := range turns {
			finds(t, empty(r, turn), r, turn)
		}
	}
}

// 8.1: a place that is not full with just that turn: ErrEmpty behind one step, whatever else it stands at.
func TestOther(t *testing.T) {
	for _, r := range rings() {
		for _, turn := range turns {
			size := uint64(r.Places)
			for _, n := range []uint64{
				turn, turn - 1, turn + 2, turn - size, turn + size, turn + 1 - size, turn + 1 + size, turn + 2*size,
				(turn + 1) ^ 1<<63, (turn + 1) ^ 1<<32, (turn + 1) ^ 1<<31, 0, 1, math.MaxUint64,
			} {
				if n == turn+1 {
					continue
				}
				a := holding(r, turn, some)
				a.Write(at(r, turn), n)
				finds(t, a, r, turn)
			}
		}
	}
}

// 8.1: what the first cell tells is nothing to it.
func TestTail(t *testing.T) {
	r := api.Ring{Base: 2, Places: 4}
	for _, turn := range turns {
		for _, next := range []uint64{turn, turn + 1, turn + 2, turn + 4, 0, 77, math.MaxUint64} {
			a := holding(r, turn, some)
			a.Write(r.Base, next)
			fetches(t, a, r, turn, some)
			b := empty(r, turn)
			b.Write(r.Base, next)
			finds(t, b, r, turn)
		}
	}
}

// 8.1: of frames that are there the one of its turn is fetched, and no other is touched, in whatever order.
func TestTurns(t *testing.T) {
	for _, places := range powers {
		for _, first := range turns {
			r := api.Ring{Base: 3, Places: places}
			a := empty(r, first)
			a.Write(r.Base, first+uint64(places))
			words := func(i uint64) api.Words { return api.Words{i, i + 100, i + 1000} }
			for i := range uint64(places) {
				put(a, r, first+i, words(i))
			}
			for i := range uint64(places) {
				// An odd factor brings each place once.
				i = (i*5 + 3) % uint64(places)
				fetches(t, a, r, first+i, words(i))
			}
			for i := range uint64(places) {
				finds(t, a, r, first+i)
				finds(t, a, r, first+i+uint64(places))
			}
		}
	}
}

// 8.1: a place that was found full is not looked at once more: what it stands at behind that changes nothing.
func TestFoundFull(t *testing.T) {
	r := api.Ring{Base: 2, Places: 4}
	for _, n := range []uint64{0, 6, 8, 10, 99} {
		a := holding(r, 6, some)
		task := read(t, a, fetch.New(r, 6), at(r, 6))
		a.Write(at(r, 6), n)
		rest(t, a, task, r, 6, some)
	}
}

// 8.1: each word is what its cell has when it is read, not ahead of it, and not behind it.
func TestWordByWord(t *testing.T) {
	r := api.Ring{Base: 2, Places: 4}
	a := holding(r, 5, api.Words{})
	task := read(t, a, fetch.New(r, 5), at(r, 5))
	for i, word := range some {
		a.Write(at(r, 5)+1+i, word)
		task = read(t, a, task, at(r, 5)+1+i)
		goes(t, task, true)
		a.Write(at(r, 5)+1+i, 77)
	}
	ended(t, step(t, a, task, at(r, 5), 9), some)
}

// 8.1: from a ring that may not be: ErrEmpty behind one step, that touches nothing.
func TestBadRing(t *testing.T) {
	for _, r := range bad {
		for _, turn := range turns {
			for _, task := range []fetch.Task{fetch.New(r, turn), {}} {
				goes(t, task, false)
				for _, a := range []*arena.Arena{arena.New(1 << 14), arena.New(3), {}, nil} {
					want := all(a)
					a.Begin()
					none(t, task.Step(a))
					if len(a.Touched()) != 0 || a.Stray() != 0 || !slices.Equal(all(a), want) {
						t.Fatalf("%+v: touched: %v, %d", r, a.Touched(), a.Stray())
					}
				}
			}
		}
	}
}

// 8.1: what is done stays as it is, whatever the cells have.
func TestDoneStays(t *testing.T) {
	r := api.Ring{Base: 1, Places: 2}
	got := fetches(t, holding(r, 4, some), r, 4, some)
	bare := finds(t, empty(r, 4), r, 4)
	bad := fetch.New(api.Ring{Places: 3}, 4).Step(empty(r, 4))
	for i, task := range []fetch.Task{got, bare, bad} {
		for _, b := range []*arena.Arena{holding(r, 4, api.Words{1, 2, 3}), empty(r, 4), holding(r, 6, some), empty(r, 0), {}, nil} {
			want := all(b)
			b.Begin()
			next := task
			for range 10 {
				next = next.Step(b)
			}
			if next != task || len(b.Touched()) != 0 || b.Stray() != 0 || !slices.Equal(all(b), want) {
				t.Errorf("%d: it does something", i)
			}
		}
	}
	ended(t, got, some)
	none(t, bare)
	none(t, bad)
}

// 8.1: tasks are held against one another: another one for all that is another.
func TestHeldAgainst(t *testing.T) {
	r, s, o := api.Ring{Places: 2}, api.Ring{Places: 4}, api.Ring{Base: 1, Places: 2}
	behind := func(w api.Words) fetch.Task {
		a := holding(r, 0, w)
		return fetches(t, a, r, 0, w)
	}
	l := []fetch.Task{
		fetch.New(r, 0), fetch.New(s, 0), fetch.New(o, 0), fetch.New(r, 1), fetch.New(r, 2), fetch.New(r, 1<<63),
		finds(t, empty(r, 0), r, 0), behind(some), behind(api.Words{}), behind(api.Words{some[0], some[1], 0}),
	}
	met := map[fetch.Task]int{}
	for i, task := range l {
		met[task] = i
	}
	if len(met) != len(l) {
		t.Errorf("%d of %d", len(met), len(l))
	}
	for i, task := range []fetch.Task{fetch.New(r, 0), fetch.New(s, 0), fetch.New(o, 0)} {
		if k, ok := met[task]; !ok || k != i {
			t.Errorf("%d is not met again", i)
		}
	}
	if behind(some) != behind(some) || finds(t, empty(r, 0), r, 0) != finds(t, empty(r, 0), r, 0) {
		t.Error("the same ends are not the same")
	}
}

// 8.1: the same steps come to the same task, and each of them to another one than those ahead of it.
func TestSameSteps(t *testing.T) {
	r := api.Ring{Base: 4, Places: 8}
	for _, w := range []api.Words{some, {}} {
		one, two, a, b := fetch.New(r, 3), fetch.New(r, 3), holding(r, 3, w), holding(r, 3, w)
		met := map[fetch.Task]bool{}
		for done := false; !done; _, done = one.Done() {
			if met[one] {
				t.Fatal("a step that does something comes to what was met")
			}
			met[one] = true
			one, two = one.Step(a), two.Step(b)
			if one != two {
				t.Fatal("the same steps do not come to the same")
			}
		}
		if len(met) != 5 {
			t.Errorf("%d steps", len(met))
		}
	}
}

// R2: a step changes no task: each of those met can be gone on with again.
func TestStepKeepsTask(t *testing.T) {
	r := api.Ring{Base: 4, Places: 8}
	a := holding(r, 3, some)
	var met []fetch.Task
	task := fetch.New(r, 3)
	for done := false; !done; _, done = task.Done() {
		was := task
		met = append(met, task)
		if task = task.Step(a); task == was || met[len(met)-1] != was {
			t.Fatal("the elder task is changed")
		}
	}
	for i, again := range met {
		b := holding(r, 3, some)
		for done := false; !done; _, done = again.Done() {
			again = again.Step(b)
		}
		if again != task || !slices.Equal(all(b), all(a)) {
			t.Errorf("from the step %d on it comes to something else", i)
		}
	}
}

// R2: what is answered may be changed later.
func TestWordsAreOwn(t *testing.T) {
	r := api.Ring{Places: 2}
	task := fetches(t, holding(r, 0, some), r, 0, some)
	w := task.Words()
	w[0], w[1], w[2] = 1, 2, 3
	ended(t, task, some)
}

// R1: in an arena that has not all of the ring's cells, or in none, each step ends, touches or strays once at most, and it is done at last.
func TestFewCells(t *testing.T) {
	r := api.Ring{Base: 2, Places: 4}
	l := []*arena.Arena{nil, {}}
	for n := 1; n <= 20; n++ {
		l = append(l, arena.New(n))
	}
	for _, a := range l {
		for _, turn := range turns {
			a.Write(at(r, turn), turn+1)
			task := fetch.New(r, turn)
			for range 5 {
				a.Begin()
				task = task.Step(a)
				if len(a.Touched())+a.Stray() > 1 {
					t.Fatalf("%d cells: touched: %v, %d", a.Len(), a.Touched(), a.Stray())
				}
			}
			if _, done := task.Done(); !done {
				t.Fatalf("%d cells, turn %d: it is not done", a.Len(), turn)
			}
		}
	}
	none(t, fetch.New(r, 0).Step(nil))
	none(t, fetch.New(r, 0).Step(arena.New(3)))
}

// 8.1: one's steps touch nothing of a ring beside its own.
func TestTwoRings(t *testing.T) {
	r, s := api.Ring{Base: 0, Places: 4}, api.Ring{Base: 17, Places: 2}
	a := arena.New(17 + 9)
	ring.Init(a, r)
	ring.Init(a, s)
	put(a, r, 0, some)
	put(a, s, 0, api.Words{1, 2, 3})
	put(a, s, 1, api.Words{4, 5, 6})
	fetches(t, a, s, 1, api.Words{4, 5, 6})
	fetches(t, a, r, 0, some)
	if ring.Held(a, r, 0) != 0 || ring.Held(a, s, 0) != 1 {
		t.Error("not what was fetched is gone")
	}
	finds(t, a, r, 1)
	fetches(t, a, s, 0, api.Words{1, 2, 3})
}

// world is how some senders, one who fetches, their ring of two places, and what was fetched from it stand.
type world struct {
	cells [9]uint64
	tasks [3]send.Task
	task  fetch.Task
	left  int // how often it is still to fetch
	head  uint64
	got   [3]uint64 // the first words of what was fetched
}

// arena is an arena with what the cells of a world have; back is the world with what they have there then.
func (w world) arena() *arena.Arena {
	a := arena.New(len(w.cells))
	for cell, n := range w.cells {
		a.Write(cell, n)
	}
	return a
}

func (w world) back(a *arena.Arena) world {
	copy(w.cells[:], all(a))
	return w
}

// fetch is the world behind a step of the one who fetches.
func (w world) fetch(t *testing.T, r api.Ring) world {
	t.Helper()
	a := w.arena()
	w.task = w.task.Step(a)
	err, done := w.task.Done()
	if !done {
		return w.back(a)
	}
	if err == api.OK {
		f := w.task.Words()
		if f[1] != f[0]+10 || f[2] != f[0]+20 {
			t.Fatalf("torn: %v", f)
		}
		w.got[w.head] = f[0]
		w.head++
	}
	w.left--
	w.task = fetch.New(r, w.head)
	return w.back(a)
}

// over looks at a world in which all are done: what was sent was fetched, or is there, once each, by their turns.
func (w world) over(t *testing.T, r api.Ring, senders int) {
	t.Helper()
	a, well := w.arena(), uint64(0)
	for i, task := range w.tasks[:senders] {
		if err, _ := task.Done(); err != api.OK {
			continue
		}
		well++
		got := a.Look(ring.Data(r, task.Turn(), 0))
		if task.Turn() < w.head {
			got = w.got[task.Turn()]
		}
		if got != uint64(i+1) {
			t.Fatalf("the sender %d's frame is neither fetched nor there: %v", i, w.got)
		}
	}
	if held := ring.Held(a, r, w.head); well != w.head+uint64(held) {
		t.Fatalf("%d are sent, %d fetched, %d there", well, w.head, held)
	}
}

// next are the worlds behind a step of one of those who are not done.
func (w world) next(t *testing.T, r api.Ring, senders int) []world {
	t.Helper()
	var l []world
	for i, task := range w.tasks[:senders] {
		if _, done := task.Done(); done {
			continue
		}
		n, a := w, w.arena()
		n.tasks[i] = task.Step(a)
		l = append(l, n.back(a))
	}
	if w.left > 0 {
		l = append(l, w.fetch(t, r))
	}
	return l
}

// 8.1: in all orders of steps of some who send into a ring of two places, and of one who fetches, each frame is fetched once, whole.
func TestOrders(t *testing.T) {
	r := api.Ring{Places: 2}
	for senders := 0; senders <= 3; senders++ {
		a := arena.New(9)
		ring.Init(a, r)
		first := world{task: fetch.New(r, 0), left: 4}.back(a)
		for i := range senders {
			n := uint64(i + 1)
			first.tasks[i] = send.New(r, api.Words{n, n + 10, n + 20})
		}
		met := map[world]bool{first: true}
		all, ends := 0, 0
		for l := []world{first}; len(l) > 0; {
			w := l[len(l)-1]
			l = l[:len(l)-1]
			behind := w.next(t, r, senders)
			for _, n := range behind {
				if !met[n] {
					met[n] = true
					l = append(l, n)
				}
			}
			if len(behind) == 0 {
				w.over(t, r, senders)
				ends++
				if w.head == uint64(senders) {
					all++
				}
			}
		}
		if ends == 0 || all == 0 {
			t.Errorf("%d senders: %d ends, %d with all fetched", senders, ends, all)
		}
	}
}

// 8.1: one fetches what four send, frame behind frame, in an order of steps drawn by a rule: each one's come, once, in its order.
func TestPassing(t *testing.T) {
	seed := uint64(5)
	draw := func(n int) int {
		seed = seed*6364136223846793005 + 1442695040888963407
		return int(seed >> 33 % uint64(n))
	}
	for _, places := range powers {
		r := api.Ring{Base: 2, Places: places}
		a := empty(r, 0)
		var tasks [4]send.Task
		var sent, got [4]uint64
		head, full, bare := uint64(0), 0, 0
		begin := func(i int) { tasks[i] = send.New(r, api.Words{uint64(i), sent[i], uint64(i) * sent[i]}) }
		for i := range tasks {
			begin(i)
		}
		task := fetch.New(r, head)
		for n := range 40000 {
			// Little is fetched for a while, and then much, so that it comes to be full and empty.
			if draw(20) < 1+n/4000%2*17 {
				task = task.Step(a)
				if err, done := task.Done(); done && err == api.OK {
					w := task.Words()
					if w[1] != got[w[0]] || w[2] != w[0]*w[1] {
						t.Fatalf("%d places: %v comes, %v came", places, w, got)
					}
					got[w[0]]++
					head++
					task = fetch.New(r, head)
				} else if done {
					bare++
					task = fetch.New(r, head)
				}
				continue
			}
			i := draw(4)
			tasks[i] = tasks[i].Step(a)
			if err, done := tasks[i].Done(); done {
				if err == api.OK {
					sent[i]++
				} else {
					full++
				}
				begin(i)
			}
		}
		sum := sent[0] + sent[1] + sent[2] + sent[3]
		if full == 0 || bare == 0 || head < 10*uint64(places) || sum > head+uint64(places) {
			t.Errorf("%d places: %d sent, %d fetched, %d times full, %d times empty", places, sum, head, full, bare)
		}
	}
}
