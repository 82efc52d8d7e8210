package client_test

import (
	"iter"
	"reflect"
	"slices"
	"testing"

	"cableway/api"
	"cableway/arena"
	"cableway/attempt"
	"cableway/breaker"
	"cableway/budget"
	"cableway/client"
	"cableway/frame"
)

// hands is what both a client and a plain one can do.
type hands interface {
	Begin(x api.Ask, now api.Tick) bool
	Step(a *arena.Arena, pumps bool, now api.Tick) bool
	Events() []api.Event
	Idle() bool
	Next() uint32
	Live() int
	Owes() bool
	Breaker(service int, now api.Tick) int
	look() sight
}

// sight is all that can be seen of a client's book, pump, slots and admission.
type sight struct {
	calls         []known
	frames        []api.Frame
	free, retired int
	to            [mostServices]int
}

// known is what can be seen of a call.
type known struct {
	f                           api.Frame
	end                         api.Tick
	how                         int
	value                       uint32
	sending, sent, owes         bool
	granted, taken, came, left  int
	tries, retries, hedges, out int
	ended                       bool
	chunks                      []uint32 // of a plain one: those that were not read
	attempt                     *attempt.Attempt
	window                      int
}

// real is a client, to be looked at.
type real struct{ *client.Client }

func (c real) look() sight {
	s := sight{frames: c.Pump().All(), free: c.Table().Free(), retired: c.Table().Retired()}
	for n := range s.to {
		s.to[n] = c.Admit().To(n)
	}
	for _, n := range c.Book().All() {
		r := c.Book().Find(n)
		s.calls = append(s.calls, known{
			f: r.F, end: r.End, how: r.How, value: r.Value, sending: r.Sending, sent: r.Sent, owes: r.Owes,
			granted: r.Credit.Granted(), taken: r.Credit.Taken(), came: r.Chunks.Came(), left: r.Chunks.Left(), ended: r.Chunks.Ended(),
			tries: r.Tries.Sent(), retries: r.Tries.Retries(), hedges: r.Tries.Hedges(), out: r.Tries.Out(),
		})
	}
	return s
}

// plain is a client whose hands are written down as one thing behind the other: at the end of each step they pause.
type plain struct {
	id       int
	x        api.Config
	w        api.Wires
	a        *arena.Arena
	now      api.Tick
	events   []api.Event
	calls    []*known
	frames   []api.Frame
	line     []int // the slots that can be picked
	retired  int
	to       [mostServices]int
	budget   *budget.Budget
	breakers []*breaker.Breaker
	last     uint32
	ask      api.Ask
	call     uint32
	busy     bool
	coming   []int // where the pump turns
	got      map[api.Ring]uint64
	asks     func() (struct{}, bool)
	pumps    func() (struct{}, bool)
}

// newPlain is one, and what lets its hands go.
func newPlain(id int, x api.Config, w api.Wires) (*plain, func()) {
	p := &plain{id: id, x: x, w: w, got: map[api.Ring]uint64{}, budget: budget.New(x.Retries)}
	for range w.Requests {
		p.breakers = append(p.breakers, breaker.New(x.Break))
	}
	for n := range w.Table.Slots {
		p.line = append(p.line, n)
	}
	asks, stopAsks := iter.Pull(p.hand(p.askOne))
	pumps, stopPumps := iter.Pull(p.hand(p.pumpOne))
	p.asks, p.pumps = asks, pumps
	return p, func() {
		stopAsks()
		stopPumps()
	}
}

// hand does one thing behind the other, for ever.
func (p *plain) hand(one func(pause func())) iter.Seq[struct{}] {
	type over struct{}
	return func(yield func(struct{}) bool) {
		defer func() {
			if r := recover(); r != nil && r != any(over{}) {
				panic(r)
			}
		}()
		pause := func() {
			if !yield(struct{}{}) {
				panic(over{})
			}
		}
		for {
			one(pause)
			pause()
		}
	}
}

func (p *plain) Step(a *arena.Arena, pumps bool, now api.Tick) bool {
	p.a, p.now = a, now
	switch {
	case pumps:
		p.pumps()
	case p.busy:
		p.asks()
	default:
		return false
	}
	return true
}

func (p *plain) Begin(x api.Ask, now api.Tick) bool {
	if p.busy {
		return false
	}
	p.now, p.busy, p.ask, p.call = now, true, x, x.Call
	if x.What == 0 {
		p.last++
		p.call = p.last
	}
	p.note(api.Event{Kind: 0, Call: p.call, Ask: x})
	return true
}

func (p *plain) Events() []api.Event {
	l := p.events
	p.events = nil
	return l
}

func (p *plain) Idle() bool { return !p.busy }

func (p *plain) Next() uint32 { return p.last + 1 }

func (p *plain) Live() int {
	n := 0
	for _, k := range p.calls {
		if k.how == 0 {
			n++
		}
	}
	return n
}

func (p *plain) Owes() bool {
	return slices.ContainsFunc(p.calls, func(k *known) bool { return k.owes })
}

func (p *plain) Breaker(service int, now api.Tick) int {
	if service < 0 || service >= len(p.breakers) {
		return 0
	}
	return p.breakers[service].State(now)
}

func (p *plain) look() sight {
	s := sight{frames: slices.Clone(p.frames), free: len(p.line), retired: p.retired, to: p.to}
	for _, k := range p.calls {
		one := *k
		one.left = len(k.chunks)
		one.tries, one.retries, one.hedges, one.out = k.attempt.Sent(), k.attempt.Retries(), k.attempt.Hedges(), k.attempt.Out()
		one.chunks, one.attempt, one.window = nil, nil, 0
		s.calls = append(s.calls, one)
	}
	return s
}

func (p *plain) note(e api.Event) {
	e.Client, e.At = p.id, p.now
	p.events = append(p.events, e)
}

// told ends what was asked for.
func (p *plain) told(err api.Errno, v uint32) {
	e := api.Event{Kind: 1, Call: p.call, Ask: p.ask, Err: err, Value: v}
	if k := p.find(p.call); k != nil {
		e.How = k.how
	}
	p.note(e)
	p.busy = false
}

func (p *plain) find(call uint32) *known {
	for _, k := range p.calls {
		if k.f.Call == call {
			return k
		}
	}
	return nil
}

func (p *plain) drop(call uint32) {
	p.calls = slices.DeleteFunc(p.calls, func(k *known) bool { return k.f.Call == call })
}

// send sends a frame, cell by cell, with a pause between each two of them; false: there is no room.
func (p *plain) send(r api.Ring, f api.Frame, pause func()) bool {
	words, _ := frame.Put(f)
	for {
		turn := p.a.Read(r.Base)
		pause()
		at := r.Base + 1 + 4*int(turn%uint64(r.Places))
		stands := p.a.Read(at)
		if stands < turn {
			return false
		}
		pause()
		if stands > turn {
			continue
		}
		swapped := p.a.Swap(r.Base, turn, turn+1)
		pause()
		if !swapped {
			continue
		}
		for n, w := range words {
			p.a.Write(at+1+n, w)
			pause()
		}
		p.a.Write(at, turn+1)
		return true
	}
}

// fetch fetches the next frame of a ring; false: there is none, or the words are none.
func (p *plain) fetch(r api.Ring, pause func()) (api.Frame, bool) {
	turn := p.got[r]
	at := r.Base + 1 + 4*int(turn%uint64(r.Places))
	if p.a.Read(at) != turn+1 {
		return api.Frame{}, false
	}
	var words api.Words
	for n := range words {
		pause()
		words[n] = p.a.Read(at + 1 + n)
	}
	pause()
	p.a.Write(at, turn+uint64(r.Places))
	p.got[r]++
	f, err := frame.Get(words)
	return f, err == 0
}

// settle ends a slot's turn: its word then; false: it did not go on.
func (p *plain) settle(k *known, pause func()) (uint64, bool) {
	at, gen := p.w.Table.Base+k.f.Slot, uint64(k.f.Gen)
	for {
		w := p.a.Read(at)
		if state := w >> 24 & 3; w&(1<<24-1) != gen || state != 1 && state != 2 {
			return 0, false
		}
		pause()
		after := gen
		if k.f.Gen >= p.w.Table.Gens {
			after |= 3 << 24
		}
		if p.a.Swap(at, w, after) {
			return after, true
		}
		pause()
	}
}

// back takes a slot back, that has a word, of a call that goes on no more.
func (p *plain) back(slot, service int, w uint64) {
	switch w >> 24 & 3 {
	case 0:
		p.line = append(p.line, slot)
	case 3:
		p.retired++
	}
	p.to[service]--
}

// over notes how a call ended.
func (p *plain) over(k *known, how int, v uint32, w uint64) {
	k.how, k.value = how, v
	p.back(k.f.Slot, k.f.Service, w)
	p.breakers[k.f.Service].Note(p.now, how == 1 || how == 2 || how == 4)
	if how == 1 || how == 2 {
		p.budget.Well()
	}
	p.note(api.Event{Kind: 2, Call: k.f.Call, How: how, Value: v})
	p.telling(k)
}

// telling lets a service be told that a call ended, when its first request was sent.
func (p *plain) telling(k *known) {
	if k.how == 0 || !k.sent {
		return
	}
	f := k.f
	f.Seq, f.Value = 0, 0
	if k.how != 1 && k.how != 2 {
		f.Kind = 5
		p.frames = append(p.frames, f)
	}
	f.Kind = 8
	p.frames = append(p.frames, f)
	k.owes = true
}

// askOne does what is asked for.
func (p *plain) askOne(pause func()) {
	if p.ask.What == 0 {
		p.askCall(pause)
		return
	}
	k := p.find(p.call)
	if k == nil {
		p.told(6, 0)
		return
	}
	switch p.ask.What {
	case 1:
		p.askCancel(k, pause)
	case 2:
		if k.how == 0 || k.owes {
			p.told(8, 0)
			return
		}
		p.told(0, k.value)
		p.drop(p.call)
	case 3:
		p.askRecv(k)
	case 4:
		p.askGrant(k)
	default:
		p.told(1, 0)
	}
}

func (p *plain) askCancel(k *known, pause func()) {
	if k.how != 0 {
		p.told(5, 0)
		return
	}
	pause()
	w, ok := p.settle(k, pause)
	if !ok {
		p.told(5, 0)
		return
	}
	p.over(k, 4, 0, w)
	p.told(0, 0)
}

func (p *plain) askRecv(k *known) {
	switch {
	case len(k.chunks) > 0:
		v := k.chunks[0]
		k.chunks = k.chunks[1:]
		if k.taken < k.granted {
			k.taken++
		}
		p.told(0, v)
	case k.f.Stream && k.how == 0:
		p.told(8, 0)
	default:
		p.told(4, 0)
	}
}

func (p *plain) askGrant(k *known) {
	n := min(int(p.ask.Arg), k.window-(k.granted-k.taken))
	switch {
	case !k.f.Stream:
		p.told(1, 0)
	case k.how != 0:
		p.told(5, 0)
	case n == 0:
		p.told(3, 0)
	default:
		k.granted += n
		f := k.f
		f.Kind, f.Seq, f.Value = 6, 0, uint32(n)
		p.credit(f)
		p.told(0, uint32(n))
	}
}

// credit waits behind the others, or is added to what waits behind the first.
func (p *plain) credit(f api.Frame) {
	for n, g := range p.frames {
		if n > 0 && g.Kind == 6 && g.Call == f.Call {
			p.frames[n].Value += f.Value
			return
		}
	}
	p.frames = append(p.frames, f)
}

// admits is the first error that applies to a call; if none does, its slot is picked.
func (p *plain) admits() api.Errno {
	x := p.ask
	all := 0
	for _, n := range p.to {
		all += n
	}
	switch {
	case x.Service < 0 || x.Service >= len(p.w.Requests) || x.Method < 0 || x.Method > 5 || x.End < 0 || x.End <= p.now || x.End >= 1<<40:
		return 1
	case len(p.calls) >= p.x.Records:
		return 3
	case all >= p.x.All || p.to[x.Service] >= p.x.Each:
		return 8
	case len(p.line) == 0:
		return 6
	}
	slot := p.line[0]
	p.line = p.line[1:]
	if !p.breakers[x.Service].May(p.now) {
		p.line = append(p.line, slot)
		return 7
	}
	p.to[x.Service]++
	return 0
}

func (p *plain) askCall(pause func()) {
	var slot int
	if len(p.line) > 0 {
		slot = p.line[0]
	}
	if err := p.admits(); err != 0 {
		p.told(err, 0)
		return
	}
	pause()
	w := p.a.Read(p.w.Table.Base + slot)
	pause()
	x, gen := p.ask, int(w&(1<<24-1))+1
	streams := x.Method == 4 || x.Method == 5
	if w>>24&3 != 0 || gen > p.w.Table.Gens {
		p.back(slot, x.Service, w)
		p.breakers[x.Service].Note(p.now, false)
		p.told(6, 0)
		return
	}
	state := uint64(1)
	if streams {
		state = 2
	}
	p.a.Write(p.w.Table.Base+slot, uint64(gen)|state<<24)
	f := api.Frame{Kind: 1, Client: p.id, Service: x.Service, Slot: slot, Gen: gen, Call: p.call, Sure: x.Sure, Stream: streams, Seq: x.Method, Value: x.Arg}
	k := &known{f: f, end: x.End, sending: true, window: p.x.Window, granted: p.x.Window, attempt: attempt.New(f, x.End, p.x.Hedges)}
	p.calls = append(p.calls, k)
	pause()
	ok := p.send(p.w.Alarms, p.alarm(f, x.End, 1), pause)
	if ok {
		p.does(k, k.attempt.Begin(p.now)[1:])
		pause()
		ok = p.send(p.w.Requests[x.Service], f, pause)
	}
	k.sending = false
	if ok {
		k.sent = true
		p.telling(k)
		p.told(0, 0)
		return
	}
	pause()
	w, won := p.settle(k, pause)
	if !won {
		p.told(0, 0)
		return
	}
	p.back(slot, x.Service, w)
	p.breakers[x.Service].Note(p.now, false)
	p.drop(p.call)
	p.told(3, 0)
}

// alarm is the frame that asks for one, of a call's turn.
func (p *plain) alarm(f api.Frame, at api.Tick, what int) api.Frame {
	return api.Frame{Kind: 9, Client: p.id, Slot: f.Slot, Gen: f.Gen, Try: what, Value: uint32(at), Seq: int(at >> 32)}
}

// does lets wait what is to be done for a call; true: it failed.
func (p *plain) does(k *known, moves []api.Move) bool {
	for _, m := range moves {
		switch m.What {
		case 1:
			p.frames = append(p.frames, m.Frame)
		case 2:
			p.frames = append(p.frames, p.alarm(k.f, m.Alarm.At, m.Alarm.What))
		case 3:
			return true
		}
	}
	return false
}

// pumpOne does what the pump turns to.
func (p *plain) pumpOne(pause func()) {
	for {
		if len(p.coming) == 0 {
			for n := range 2 + len(p.w.Requests) {
				p.coming = append(p.coming, n)
			}
		}
		turn := p.coming[0]
		p.coming = p.coming[1:]
		switch {
		case turn == 0 && len(p.frames) == 0:
			continue
		case turn == 0:
			p.sendOne(pause)
		case turn == 1:
			p.fetchOne(p.w.Due, pause)
		default:
			p.fetchOne(p.w.Replies[turn-2], pause)
		}
		return
	}
}

// ends ends a call, if the other hand does not.
func (p *plain) ends(k *known, how int, v uint32, pause func()) {
	pause()
	if w, ok := p.settle(k, pause); ok {
		p.over(k, how, v, w)
	}
}

func (p *plain) sendOne(pause func()) {
	f := p.frames[0]
	k := p.find(f.Call)
	if f.Kind == 1 && (k == nil || k.how != 0) {
		p.frames = p.frames[1:]
		return
	}
	r := p.w.Alarms
	if f.Kind != 9 {
		r = p.w.Requests[f.Service]
	}
	ok := p.send(r, f, pause)
	p.frames = p.frames[1:]
	k = p.find(f.Call)
	switch {
	case ok && f.Kind == 8 && k != nil:
		k.owes = false
	case !ok && f.Kind != 1:
		p.frames = append(p.frames, f)
	case !ok && k != nil && k.how == 0 && p.does(k, k.attempt.Failed(f.Try, p.now, p.budget)):
		p.ends(k, 5, 0, pause)
	}
}

func (p *plain) fetchOne(r api.Ring, pause func()) {
	f, ok := p.fetch(r, pause)
	if !ok || f.Client != p.id {
		return
	}
	for _, k := range p.calls {
		if k.how == 0 && k.f.Slot == f.Slot && k.f.Gen == f.Gen && (f.Kind == 10 || k.f.Call == f.Call) {
			p.came(k, f, pause)
			return
		}
	}
}

func (p *plain) came(k *known, f api.Frame, pause func()) {
	switch {
	case f.Kind == 10 && f.Try == 1 && p.now >= k.end:
		p.ends(k, 3, 0, pause)
	case f.Kind == 10:
		p.does(k, k.attempt.Due(f.Try, p.now))
	case f.Kind == 2 && !k.f.Stream:
		p.ends(k, 1, f.Value, pause)
	case f.Kind == 7:
		if p.does(k, k.attempt.Failed(f.Try, p.now, p.budget)) {
			p.ends(k, 5, 0, pause)
		}
	case f.Kind == 3 && k.f.Stream && f.Seq == k.came && !k.ended && len(k.chunks) < 64:
		k.came++
		k.chunks = append(k.chunks, f.Value)
		p.note(api.Event{Kind: 3, Call: k.f.Call, Seq: f.Seq, Value: f.Value})
	case f.Kind == 4 && k.f.Stream && f.Seq == k.came:
		k.ended = true
		p.ends(k, 2, uint32(k.came), pause)
	}
}

// same fails where two clients stand otherwise.
func same(t *testing.T, got, want hands, services int, now api.Tick) {
	t.Helper()
	if got.Idle() != want.Idle() || got.Next() != want.Next() || got.Live() != want.Live() || got.Owes() != want.Owes() {
		t.Fatalf("idle %v, next %d, live %d, owes %v, not %v, %d, %d, %v", got.Idle(), got.Next(), got.Live(), got.Owes(), want.Idle(), want.Next(), want.Live(), want.Owes())
	}
	for n := range services + 1 {
		if got.Breaker(n, now) != want.Breaker(n, now) {
			t.Fatalf("Breaker(%d, %d) = %d", n, now, got.Breaker(n, now))
		}
	}
	a, b := got.look(), want.look()
	if !slices.Equal(a.frames, b.frames) {
		t.Fatalf("%+v wait, not %+v", a.frames, b.frames)
	}
	a.frames, b.frames = nil, nil
	if !reflect.DeepEqual(a, b) {
		t.Fatalf("it stands %+v\nnot %+v", a, b)
	}
}
