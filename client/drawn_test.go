package client_test

import (
	"slices"
	"testing"

	"cableway/alarm"
	"cableway/api"
	"cableway/arena"
	"cableway/client"
	"cableway/fetch"
	"cableway/frame"
	"cableway/handler"
	"cableway/send"
	"cableway/server"
	"cableway/slot"
)

// drawing draws numbers by a rule.
func drawing(seed uint64) func(n int) int {
	seed = seed*2862933555777941757 + 3037000493
	return func(n int) int {
		seed = seed*6364136223846793005 + 1442695040888963407
		return int(seed >> 33 % uint64(n))
	}
}

// world is clients, services and a clock, at times of their own; of services and clock each step passes on a whole frame.
type world struct {
	t        *testing.T
	draw     func(n int) int
	x        api.Config
	a        *arena.Arena
	w        []api.Wires
	l        []hands
	services []*server.Server
	twice    []bool
	got      map[api.Ring]uint64
	sent     map[api.Ring]uint64
	alarms   []api.Alarm
	now      api.Tick
	events   []api.Event
	wild     bool // others lay frames and words into the cells, too
}

// drawnConfig is how clients are made.
func drawnConfig(draw func(n int) int) api.Config {
	x := api.Config{Records: 1 + draw(8), All: 1 + draw(8), Each: 1 + draw(6), Window: 1 + draw(4)}
	if draw(2) == 0 {
		x.Retries = api.Retries{Most: draw(4), Gain: draw(3), Cost: draw(4), Room: draw(9), Wait: api.Tick(draw(5)), Bound: api.Tick(draw(20))}
	}
	if draw(2) == 0 {
		x.Hedges = api.Hedges{Most: draw(4), After: api.Tick(draw(12))}
	}
	x.Break = api.Break{Buckets: 1 + draw(3), Width: api.Tick(1 + draw(20)), Least: 3 + draw(20), Part: 50 + draw(51), Cool: api.Tick(draw(30)), Trials: draw(3)}
	return x
}

// newWorld is a world that is drawn, whose clients one makes.
func newWorld(t *testing.T, seed uint64, wild bool, make func(id int, x api.Config, w api.Wires) hands) *world {
	draw := drawing(seed)
	clients, services := 1+draw(3), 1+draw(3)
	l, n := spread(clients, services, 2<<draw(3), 1+draw(4), []int{2, 5, 1000}[draw(3)])
	w := &world{t: t, draw: draw, x: drawnConfig(draw), a: cells(n, l...), w: l, wild: wild, got: map[api.Ring]uint64{}, sent: map[api.Ring]uint64{}}
	for id := range l {
		w.l = append(w.l, make(id, w.x, l[id]))
	}
	x := api.Service{Workers: 1 + draw(3), Queue: draw(4), Known: 1 + draw(12), Window: w.x.Window}
	for range services {
		w.services = append(w.services, server.New(x))
	}
	w.twice = slices.Repeat([]bool{false}, services)
	return w
}

// ask is something that a client may ask for, most often of calls that it had.
func (w *world) ask(c hands) api.Ask {
	d, last := w.draw, int(c.Next())-1
	x := api.Ask{What: 1 + d(4), Call: uint32(max(0, last-d(6))), Arg: uint32(d(4))}
	if d(30) == 0 {
		x.What, x.Call = d(9)-2, uint32(d(last+3))
	}
	if d(5) < 2 {
		x = api.Ask{What: api.AskCall, Service: d(len(w.services)), Method: d(6), Arg: uint32(d(100)), Sure: d(2) == 0, End: w.now + 1 + api.Tick(d(60))}
	}
	if d(40) == 0 {
		x.Service, x.Method, x.End = d(6)-1, d(8)-1, w.now+api.Tick(d(4))-1
	}
	return x
}

// step lets a hand do a step, that touches a cell at most.
func (w *world) step(n int, pumps bool) {
	w.t.Helper()
	w.a.Begin()
	busy := !w.l[n].Idle()
	if got := w.l[n].Step(w.a, pumps, w.now); got != (pumps || busy) {
		w.t.Fatalf("Step(pumps: %v) = %v, where it asks: %v", pumps, got, busy)
	}
	if l := w.a.Touched(); len(l) > 1 || w.a.Stray() > 0 {
		w.t.Fatalf("touched %d, and %d others", l, w.a.Stray())
	}
}

// fetch is the next frame of a ring.
func (w *world) fetch(r api.Ring) (api.Frame, bool) {
	f := fetch.New(r, w.got[r])
	for {
		err, done := f.Done()
		if done && err != api.OK {
			return api.Frame{}, false
		}
		if done {
			w.got[r]++
			g, err := frame.Get(f.Words())
			return g, err == api.OK
		}
		f = f.Step(w.a)
	}
}

// tell sends a frame into a ring into which nobody else sends.
func (w *world) tell(r api.Ring, f api.Frame) bool {
	words, _ := frame.Put(f)
	s := send.Lone(r, words, w.sent[r])
	for {
		err, done := s.Done()
		if done && err == api.OK {
			w.sent[r]++
		}
		if done {
			return err == api.OK
		}
		s = s.Step(w.a)
	}
}

// post brings a service a request, or a client an answer.
func (w *world) post(n int) {
	s := w.services[n]
	if w.draw(2) == 0 {
		f, ok := w.fetch(w.w[0].Requests[n])
		if !ok {
			return
		}
		s.Handle(f)
		if f.Kind == api.KindRequest && w.twice[n] {
			w.twice[n] = false
			s.Handle(f)
		}
		return
	}
	c := w.draw(len(w.l))
	if f, ok := s.Next(c); ok && w.tell(w.w[c].Replies[n], f) {
		s.Sent(c)
	}
}

// clock takes an alarm that is asked for, or tells one that has come.
func (w *world) clock() {
	if w.draw(2) == 0 {
		f, _ := w.fetch(w.w[0].Alarms)
		a, ok := alarm.Of(f)
		if !ok || a.Client >= len(w.l) {
			return
		}
		w.alarms = slices.DeleteFunc(w.alarms, func(b api.Alarm) bool { return a.Client == b.Client && a.Slot == b.Slot && a.What == b.What })
		w.alarms = append(w.alarms, a)
		return
	}
	for n, a := range w.alarms {
		if a.At <= w.now && w.tell(w.w[a.Client].Due, alarm.Tell(a)) {
			w.alarms = slices.Delete(w.alarms, n, n+1)
			return
		}
	}
}

// disturb lets others do what none of those that act does.
func (w *world) disturb() {
	d, c := w.draw, w.draw(len(w.l))
	wires := w.w[c]
	f := api.Frame{Kind: 1 + d(10), Client: c, Service: d(4), Slot: d(4), Gen: d(5), Call: uint32(d(12)), Try: d(4), Stream: d(2) == 0, Seq: d(4), Value: uint32(d(9))}
	if d(9) == 0 {
		f.Client = d(4)
	}
	switch d(12) {
	case 0:
		w.a.Write(wires.Table.Base+d(wires.Table.Slots), slot.Word(d(6), d(4)))
	case 1:
		r := wires.Replies[d(len(wires.Replies))]
		w.a.Write(r.Base+2+d(3), uint64(d(1<<30))<<d(40))
	case 2:
		words, _ := frame.Put(f)
		r := append(slices.Clone(wires.Requests), wires.Alarms)[d(len(wires.Requests)+1)]
		s := send.New(r, words)
		for range 9 {
			s = s.Step(w.a)
		}
	case 3, 4, 5:
		w.tell(wires.Due, f)
	default:
		w.tell(wires.Replies[d(len(wires.Replies))], f)
	}
}

// act lets somebody do something.
func (w *world) act() {
	w.t.Helper()
	d := w.draw
	c, s := d(len(w.l)), d(len(w.services))
	switch k := d(30); {
	case k < 3:
		w.l[c].Begin(w.ask(w.l[c]), w.now)
	case k < 10:
		w.step(c, false)
	case k < 19:
		w.step(c, true)
	case k < 22:
		w.post(s)
	case k < 25:
		w.services[s].Work(d(3), []int{api.OutDone, api.OutChunk, api.OutFail, api.OutNone, api.OutDone, api.OutChunk}[d(6)])
	case k < 27:
		w.clock()
	case k < 28:
		w.now += api.Tick(d(4))
	case k < 29 && d(4) == 0:
		w.services[s].Drop(c)
	case k < 29:
		w.twice[s] = w.twice[s] || d(3) == 0
	case w.wild:
		w.disturb()
	}
}

// burst lets a hand do several steps, one behind the other.
func (w *world) burst() {
	w.t.Helper()
	c, pumps := w.draw(len(w.l)), w.draw(2) == 0
	for range w.draw(20) {
		if pumps || !w.l[c].Idle() {
			w.step(c, pumps)
		}
	}
}

// some lets somebody do something, or several things.
func (w *world) some() {
	w.t.Helper()
	if w.draw(12) == 0 {
		w.burst()
		return
	}
	w.act()
}

// news is what happened since then, client by client.
func (w *world) news() []api.Event {
	var l []api.Event
	for _, c := range w.l {
		l = append(l, c.Events()...)
	}
	w.events = append(w.events, l...)
	return l
}

// makeReal makes a client.
func makeReal(id int, x api.Config, w api.Wires) hands { return real{client.New(id, x, w)} }

// 30.1: step by step against plain clients: all cells, all that happens, and all that can be seen of them.
func compare(t *testing.T, wild bool) {
	for seed := range uint64(250) {
		var stops []func()
		one := newWorld(t, seed, wild, makeReal)
		two := newWorld(t, seed, wild, func(id int, x api.Config, w api.Wires) hands {
			p, stop := newPlain(id, x, w)
			stops = append(stops, stop)
			return p
		})
		for range 2000 {
			one.some()
			two.some()
			if a, b := one.news(), two.news(); !slices.Equal(a, b) {
				t.Fatalf("seed %d: %+v happened, not %+v", seed, a, b)
			}
			for at := range one.a.Len() {
				if one.a.Look(at) != two.a.Look(at) {
					t.Fatalf("seed %d: the cell %d has %x, not %x", seed, at, one.a.Look(at), two.a.Look(at))
				}
			}
			for n := range one.l {
				same(t, one.l[n], two.l[n], len(one.services), one.now)
			}
		}
		for _, stop := range stops {
			stop()
		}
	}
}

func TestAgainstPlain(t *testing.T) { compare(t, false) }

func TestAgainstPlainWild(t *testing.T) { compare(t, true) }

// life is what is known of a call by what happened.
type life struct {
	ask     api.Ask
	told    bool // whether it was accepted
	refused bool
	how     int
	value   uint32
	chunks  []uint32
	read    int
	polled  bool
}

// watch is what is known of a client by what happened.
type watch struct {
	t     *testing.T
	asks  bool
	ask   api.Ask
	call  uint32
	calls []*life // the call 1 first
}

func (w *watch) find(call uint32) *life {
	if call < 1 || int(call) > len(w.calls) {
		return nil
	}
	return w.calls[call-1]
}

// see fails where something happens that may not, if each thing happened at once.
func (w *watch) see(e api.Event) {
	w.t.Helper()
	k := w.find(e.Call)
	ok := true
	switch e.Kind {
	case api.EvInvoke:
		ok = !w.asks && w.invoked(e)
	case api.EvReturn:
		ok = w.asks && e.Ask == w.ask && e.Call == w.call && w.returned(e, k)
		w.asks = false
	case api.EvResolve:
		ok = k != nil && !k.refused && k.how == 0 && w.resolved(e, k)
	case api.EvChunk:
		ok = k != nil && !k.refused && k.how == 0 && handler.Streams(k.ask.Method) && e.Seq == len(k.chunks) && e.Value == handler.Chunk(k.ask.Method, k.ask.Arg, e.Seq)
		k.chunks = append(k.chunks, e.Value)
	default:
		ok = false
	}
	if !ok {
		w.t.Fatalf("%+v can't be, of %+v", e, k)
	}
}

func (w *watch) invoked(e api.Event) bool {
	w.asks, w.ask, w.call = true, e.Ask, e.Call
	if e.Ask.What != api.AskCall {
		return e.Call == e.Ask.Call
	}
	w.calls = append(w.calls, &life{ask: e.Ask})
	return int(e.Call) == len(w.calls)
}

func (w *watch) resolved(e api.Event, k *life) bool {
	k.how, k.value = e.How, e.Value
	streams := handler.Streams(k.ask.Method)
	switch e.How {
	case api.EndReply:
		switch k.ask.Method {
		case api.MethodEcho:
			return e.Value == k.ask.Arg
		case api.MethodTwice:
			return e.Value == 2*k.ask.Arg
		}
		return !streams
	case api.EndStream:
		return streams && int(e.Value) == len(k.chunks)
	case api.EndTimeout:
		return e.At >= k.ask.End && e.Value == 0
	case api.EndCancelled:
		return w.asks && w.ask.What == api.AskCancel && w.ask.Call == e.Call && e.Value == 0
	}
	return e.How == api.EndFailed && e.Value == 0
}

func (w *watch) returned(e api.Event, k *life) bool {
	if e.Ask.What == api.AskCall {
		k.told, k.refused = true, e.Err != api.OK
		return e.Value == 0 && (!k.refused || k.how == 0 && len(k.chunks) == 0)
	}
	if e.Err != api.OK {
		return e.Value == 0
	}
	if k == nil || k.refused || k.polled || e.How != k.how {
		return false
	}
	switch e.Ask.What {
	case api.AskCancel:
		return k.how == api.EndCancelled
	case api.AskPoll:
		k.polled = true
		return k.how != 0 && e.Value == k.value
	case api.AskRecv:
		k.read++
		return k.read <= len(k.chunks) && e.Value == k.chunks[k.read-1]
	case api.AskGrant:
		return handler.Streams(k.ask.Method) && k.how == 0 && e.Value >= 1 && e.Value <= e.Ask.Arg
	}
	return false
}

// audit fails where a client's slots, admission, records and credits do not fit one another.
func (w *world) audit(n int) {
	w.t.Helper()
	c := w.l[n].(real)
	asks := 0
	if !c.Idle() {
		asks = 1
	}
	live, slots := 0, w.w[n].Table.Slots
	for at := range slots {
		word := w.a.Look(c.Table().Cell(at))
		goes := slot.Live(word, slot.Gen(word))
		if goes != (c.Book().Live(at, slot.Gen(word)) != nil) {
			w.t.Fatalf("the slot %d has %x", at, word)
		}
		if goes {
			live++
		}
	}
	if c.Live() != live || c.Admit().Len() < live || c.Admit().Len() > live+asks {
		w.t.Fatalf("%d go on, of %d slots, %d admitted", c.Live(), live, c.Admit().Len())
	}
	if all := live + c.Table().Free() + c.Table().Retired(); all > slots || all < slots-asks {
		w.t.Fatalf("%d slots of %d", all, slots)
	}
	if c.Book().Len() > w.x.Records {
		w.t.Fatalf("%d records", c.Book().Len())
	}
	for _, call := range c.Book().All() {
		r := c.Book().Find(call)
		if r.Credit.Out() > w.x.Window || r.Chunks.Came() > r.Credit.Granted() || r.Chunks.Left() > r.Credit.Out() {
			w.t.Fatalf("%+v", r)
		}
	}
}

// settle lets all end: the time is behind all ends, and handlers do nothing.
func (w *world) settle() {
	w.t.Helper()
	w.now += 1000
	for round := 0; ; round++ {
		open := false
		for n, c := range w.l {
			open = open || c.Live() > 0 || !c.Idle() || c.Owes()
			w.step(n, true)
			if !c.Idle() {
				w.step(n, false)
			}
			w.audit(n)
		}
		if !open {
			return
		}
		if round == 5000 {
			w.t.Fatal("it does not end")
		}
		for n := range w.services {
			w.post(n)
		}
		w.clock()
	}
}

// T1 to T5: whatever happens between those that act as they must: what happens may be, each call ends once at most, what is sure is begun once at most, streams are whole, and all ends.
func TestWhole(t *testing.T) {
	ends := [6]int{}
	for seed := range uint64(400) {
		w := newWorld(t, 1000+seed, false, makeReal)
		var watches []*watch
		for range w.l {
			watches = append(watches, &watch{t: t})
		}
		see := func() {
			for _, e := range w.news() {
				watches[e.Client].see(e)
				if e.Kind == api.EvResolve {
					ends[e.How]++
				}
			}
		}
		for range 1500 {
			w.some()
			see()
			for n := range w.l {
				w.audit(n)
			}
		}
		w.settle()
		see()
		for n, c := range w.l {
			if table := c.(real).Table(); table.Free()+table.Retired() != w.w[n].Table.Slots {
				t.Fatalf("%d free, %d retired", table.Free(), table.Retired())
			}
			for _, k := range watches[n].calls {
				if k.told && !k.refused && k.how == 0 {
					t.Fatalf("%+v did not end", k)
				}
			}
		}
		w.once(watches)
	}
	for _, how := range ways {
		if ends[how] < 100 {
			t.Errorf("%d ended so: %d", how, ends[how])
		}
	}
}

// once fails where something was begun more often than it may be.
func (w *world) once(watches []*watch) {
	w.t.Helper()
	type whose struct {
		client int
		call   uint32
	}
	for _, s := range w.services {
		count := map[whose]int{}
		for _, f := range s.Runs() {
			at := whose{f.Client, f.Call}
			count[at]++
			most := 1
			if !f.Sure {
				most += w.x.Retries.Most + w.x.Hedges.Most
			}
			if count[at] > most {
				w.t.Fatalf("begun %d times: %+v", count[at], f)
			}
			if k := watches[f.Client].find(f.Call); k == nil || k.ask.Sure != f.Sure || k.ask.Method != f.Seq || k.ask.Arg != f.Value {
				w.t.Fatalf("begun, and not asked for: %+v, %+v", f, k)
			}
		}
	}
}
