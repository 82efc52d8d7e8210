package server_test

import (
	"slices"
	"testing"

	"cableway/api"
	"cableway/server"
)

// job is a request at a worker of a plain service.
type job struct {
	f    api.Frame
	on   bool // it is being done
	left int
	sent int
}

// met is what a plain service knows of a call.
type met struct {
	client int
	call   uint32
	tries  []int
	runs   int
	ends   []api.Frame // all that it came to; the first counts
}

// plain is a service as lists, that asks one thing behind the other, in the order in which the chapter names them.
type plain struct {
	s       api.Service
	jobs    [][]*job
	calls   []*met
	state   uint32
	begun   []api.Frame
	answers []api.Frame // of all clients
}

func newPlain(s api.Service) *plain {
	s.Workers, s.Queue = nearest(s.Workers, 1, mostWorkers), nearest(s.Queue, 0, mostQueue)
	s.Known, s.Window = nearest(s.Known, 0, mostEntries), nearest(s.Window, 1, mostWindow)
	return &plain{s: s, jobs: make([][]*job, s.Workers)}
}

// of is the answers that wait for a client.
func (p *plain) of(c int) []api.Frame {
	var l []api.Frame
	for _, f := range p.answers {
		if f.Client == c {
			l = append(l, f)
		}
	}
	return l
}

// put lets an answer wait; one that has no room, or no client, is lost.
func (p *plain) put(f api.Frame) {
	if f.Client < 0 || f.Client >= mostClients || len(p.of(f.Client)) == mostOut {
		return
	}
	p.answers = append(p.answers, f)
}

// find is what is known of a frame's call; nil: nothing.
func (p *plain) find(f api.Frame) *met {
	for _, k := range p.calls {
		if k.client == f.Client && k.call == f.Call {
			return k
		}
	}
	return nil
}

// least is the worker that has the least; -1: all are full.
func (p *plain) least() int {
	for load := range p.s.Queue + 1 {
		for i, l := range p.jobs {
			if len(l) == load {
				return i
			}
		}
	}
	return -1
}

func (p *plain) handle(f api.Frame) {
	switch f.Kind {
	case api.KindRequest:
		p.request(f)
	case api.KindAck:
		p.calls = slices.DeleteFunc(p.calls, func(k *met) bool { return k.client == f.Client && k.call == f.Call })
	case api.KindCancel:
		for i := range p.jobs {
			p.jobs[i] = slices.DeleteFunc(p.jobs[i], func(j *job) bool { return same(j.f, f) })
		}
	case api.KindCredit:
		for _, l := range p.jobs {
			for _, j := range l {
				if j.on && j.f.Stream && same(j.f, f) {
					j.left += int(min(f.Value, mostWindow))
				}
			}
		}
	}
}

// same tells whether two frames are of the same turn of the same call.
func same(f, g api.Frame) bool {
	return f.Client == g.Client && f.Slot == g.Slot && f.Gen == g.Gen && f.Call == g.Call
}

func (p *plain) request(f api.Frame) {
	n, k := p.least(), p.find(f)
	may := f.Try >= 0 && f.Try <= mostTry
	switch {
	case n < 0 && (!f.Sure || k == nil), !may, k == nil && len(p.calls) == p.s.Known:
		p.put(busy(f))
		return
	case k == nil:
		k = &met{client: f.Client, call: f.Call}
		p.calls = append(p.calls, k)
	case slices.Contains(k.tries, f.Try):
		return
	}
	k.tries = append(k.tries, f.Try)
	switch {
	case !f.Sure || k.runs == 0:
		k.runs++
		p.jobs[n] = append(p.jobs[n], &job{f: f})
	case len(k.ends) == 0:
	case k.ends[0].Kind == api.KindReply:
		p.put(reply(f, k.ends[0].Value))
	default:
		p.put(failed(f))
	}
}

func (p *plain) work(n, out int) bool {
	if n < 0 || n >= len(p.jobs) || len(p.jobs[n]) == 0 {
		return false
	}
	j := p.jobs[n][0]
	if !j.on {
		j.on = true
		if j.f.Stream {
			j.left = p.s.Window
		}
		p.begun = append(p.begun, j.f)
		return true
	}
	if len(p.of(j.f.Client)) == mostOut {
		return false
	}
	switch {
	case out == api.OutChunk && j.left > 0:
		p.put(answer(j.f, api.KindChunk, j.sent, chunk(j.f, j.sent)))
		j.left, j.sent = j.left-1, j.sent+1
		return true
	case out == api.OutFail:
		p.end(n, failed(j.f))
		return true
	case out == api.OutDone && j.f.Stream:
		p.end(n, answer(j.f, api.KindEnd, j.sent, 0))
		return true
	case out == api.OutDone:
		p.end(n, p.run(j.f))
		return true
	}
	return false
}

// end lets a worker do what it does no more: that came to an answer.
func (p *plain) end(n int, f api.Frame) {
	p.jobs[n] = p.jobs[n][1:]
	if k := p.find(f); k != nil {
		k.ends = append(k.ends, f)
	}
	p.put(f)
}

// run is what the chapter of the handlers says that a request comes to.
func (p *plain) run(f api.Frame) api.Frame {
	switch f.Seq {
	case 0:
		return reply(f, f.Value)
	case 1:
		p.state += f.Value
		return reply(f, p.state)
	case 2:
		return reply(f, p.state)
	case 3:
		return reply(f, f.Value+f.Value)
	}
	return failed(f)
}

// chunk is what it says that a stream's chunk is.
func chunk(f api.Frame, n int) uint32 {
	v := uint32(1)
	switch f.Seq {
	case 4:
		return f.Value + uint32(n)
	case 5:
		for range n {
			v *= f.Value
		}
		return v
	}
	return 0
}

// send takes the first answer away that waits for a client, if it is of one of these kinds.
func (p *plain) send(c int, kinds ...int) bool {
	for i, f := range p.answers {
		if f.Client != c {
			continue
		}
		if !slices.Contains(kinds, f.Kind) {
			return false
		}
		p.answers = slices.Delete(p.answers, i, i+1)
		return true
	}
	return false
}

func (p *plain) sent(c int) bool {
	return p.send(c, api.KindReply, api.KindFailure, api.KindChunk, api.KindEnd)
}

func (p *plain) drop(c int) bool { return p.send(c, api.KindReply, api.KindFailure) }

// alike fails where a service stands otherwise than a plain one.
func alike(t *testing.T, s *server.Server, p *plain) {
	t.Helper()
	stands(t, s, p.state)
	knows(t, s, len(p.calls))
	ran(t, s, p.begun...)
	var loads []int
	for _, l := range p.jobs {
		loads = append(loads, len(l))
	}
	loaded(t, s, loads...)
	for c := -1; c <= mostClients; c++ {
		l := p.of(c)
		waiting(t, s, c, len(l))
		got, ok := s.Next(c)
		if ok != (len(l) > 0) || ok && got != l[0] || !ok && got != (api.Frame{}) {
			t.Fatalf("Next(%d): %+v, %v, of %+v", c, got, ok, l)
		}
	}
}

// deed is one of the calls that change something: it is done to both, and fails where they answer otherwise.
type deed func(t *testing.T, s *server.Server, p *plain)

func handling(f api.Frame) deed {
	return func(t *testing.T, s *server.Server, p *plain) {
		s.Handle(f)
		p.handle(f)
	}
}

func working(n, out int) deed {
	return func(t *testing.T, s *server.Server, p *plain) {
		t.Helper()
		works(t, s, n, out, p.work(n, out))
	}
}

func sending(c int) deed {
	return func(t *testing.T, s *server.Server, p *plain) {
		t.Helper()
		sends(t, s, c, p.sent(c))
	}
}

func dropping(c int) deed {
	return func(t *testing.T, s *server.Server, p *plain) {
		t.Helper()
		drops(t, s, c, p.drop(c))
	}
}

// 27.1: each order of five calls, against lists, of what is sure, what is not, and of streams.
func TestAllOrders(t *testing.T) {
	for _, first := range []api.Frame{sure(0, 1, 0, api.MethodAdd, 3), request(0, 1, 0, api.MethodAdd, 3), stream(0, 1, api.MethodCount, 3)} {
		second := first
		second.Try = 1
		deeds := []deed{
			handling(first), handling(second), handling(sure(1, 1, 0, api.MethodLook, 0)),
			handling(tell(api.KindCancel, first, 0)), handling(tell(api.KindCredit, first, 1)), handling(tell(api.KindAck, first, 0)),
			working(0, api.OutDone), working(0, api.OutChunk), working(1, api.OutFail), sending(0), dropping(0),
		}
		orders := 1
		for range 5 {
			orders *= len(deeds)
		}
		for _, x := range []api.Service{{Workers: 1, Known: 1, Window: 1}, {Workers: 2, Queue: 1, Known: 2, Window: 2}} {
			for order := range orders {
				s, p := server.New(x), newPlain(x)
				rest := order
				for range 5 {
					deeds[rest%len(deeds)](t, s, p)
					rest /= len(deeds)
				}
				alike(t, s, p)
			}
		}
	}
}

// drawing draws numbers by a rule.
func drawing() func(n int) int {
	seed := uint64(1)
	return func(n int) int {
		seed = seed*6364136223846793005 + 1442695040888963407
		return int(seed >> 33 % uint64(n))
	}
}

// drawn is a frame, most often a request; of one call in a few all requests are sure, or stream, or neither.
func drawn(draw func(n int) int) api.Frame {
	call := uint32(draw(6))
	client := draw(mostClients)
	if draw(50) == 0 {
		client = none[draw(len(none))]
	}
	f := request(client, call, draw(5), draw(api.Methods+1), uint32(draw(9)))
	f.Gen += draw(10) / 9
	f.Sure, f.Stream = call%3 == 0, call%3 == 1
	if draw(50) == 0 {
		f.Try = numbers[draw(len(numbers))]
	}
	if draw(50) == 0 {
		f.Sure, f.Stream = !f.Sure, draw(2) == 0
	}
	switch kinds := []int{api.KindCancel, api.KindCredit, api.KindAck, api.KindReply}; draw(12) {
	case 0, 1, 2:
		return tell(kinds[draw(len(kinds))], f, f.Value)
	}
	return f
}

// 27.1: long runs, drawn by a rule, against lists; some with much work, some with little, some whose answers are never sent.
func TestDrawn(t *testing.T) {
	draw := drawing()
	for range 400 {
		x := api.Service{Workers: draw(6), Queue: draw(10) / 2, Known: draw(30), Window: draw(4)}
		s, p := server.New(x), newPlain(x)
		work, send := 1+draw(8), draw(4)
		for range 400 {
			n, c := draw(p.s.Workers+1), draw(mostClients+2)-1
			d := handling(drawn(draw))
			switch turn := draw(12); {
			case turn < work:
				d = working(n, draw(5))
			case turn < work+send:
				d = sending(c)
			case turn == 11:
				d = dropping(c)
			}
			d(t, s, p)
			alike(t, s, p)
		}
	}
}

// 27.1: whatever comes, is lost, or comes twice: what is sure is begun once at most, till its client knows how it ended; a try of what is not, once; and never has anything more than there is room for.
func TestOnce(t *testing.T) {
	draw := drawing()
	type try struct {
		client int
		call   uint32
		n      int
	}
	for range 200 {
		x := api.Service{Workers: 1 + draw(4), Queue: draw(4), Known: 1 + draw(30), Window: 2}
		s := server.New(x)
		acked := map[uint32]bool{}
		for range 300 {
			f := request(draw(mostClients), uint32(draw(9)), draw(4), draw(4), 1)
			f.Sure = f.Call%2 == 0
			switch draw(8) {
			case 0, 1, 2:
				s.Handle(f)
				s.Handle(f)
			case 3:
				s.Handle(tell(api.KindCancel, f, 0))
			case 4:
				s.Drop(f.Client)
			case 5:
				if f.Call == 8 {
					s.Handle(tell(api.KindAck, f, 0))
					acked[f.Call] = true
				}
			default:
				s.Work(draw(4), 1+draw(2))
			}
			for c := range mostClients {
				if s.Waits(c) > mostOut || slices.Max(s.Loads()) > x.Queue+1 || s.Known() > x.Known {
					t.Fatalf("%d wait, loads %v, %d known", s.Waits(c), s.Loads(), s.Known())
				}
			}
		}
		count := map[try]int{}
		for _, f := range s.Runs() {
			if f.Sure {
				f.Try = 0
			}
			k := try{f.Client, f.Call, f.Try}
			count[k]++
			if count[k] > 1 && !acked[f.Call] {
				t.Fatalf("begun again: %+v", f)
			}
		}
	}
}
