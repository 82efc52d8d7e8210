package server_test

import (
	"math"
	"slices"
	"testing"

	"cableway/api"
	"cableway/server"
)

const (
	mostClients = 4 // as the given limits are
	mostWorkers = 4
	mostOut     = 32
	mostQueue   = 8
	mostEntries = 64
	mostWindow  = 16
	mostTry     = 15
)

// numbers are workers, rooms, windows, clients and what handlers do, also what may not be.
var numbers = []int{
	math.MinInt, math.MinInt + 1, math.MinInt32, -1 << 32, -1<<32 + 1, -100, -17, -9, -8, -5, -4, -3, -2, -1, 0, 1, 2, 3, 4, 5, 6, 7, 8, 9, 10,
	15, 16, 17, 31, 32, 33, 63, 64, 65, 100, 255, 256, 65535, 65536, math.MaxInt32, 1 << 32, 1<<32 + 1, 1<<32 + 3, math.MaxInt - 1, math.MaxInt,
}

// none are numbers that no client and no worker has.
var none = []int{math.MinInt, -1 << 32, -4, -1, 4, 5, 7, 64, 1 << 32, 1<<32 + 1, math.MaxInt}

// nearest is the number from one on up to another one that counts for n, case by case.
func nearest(n, from, to int) int {
	switch {
	case n < from:
		return from
	case n > to:
		return to
	}
	return n
}

// request is a request of a client's call, with all of its fields told.
func request(client int, call uint32, try, method int, arg uint32) api.Frame {
	return api.Frame{
		Kind: api.KindRequest, Client: client, Service: 2, Slot: 3, Gen: 4, Call: call, Try: try, Seq: method, Value: arg,
	}
}

// sure is a request of a call that is done once at most.
func sure(client int, call uint32, try, method int, arg uint32) api.Frame {
	f := request(client, call, try, method, arg)
	f.Sure = true
	return f
}

// stream is a request of one that streams.
func stream(client int, call uint32, method int, arg uint32) api.Frame {
	f := request(client, call, 0, method, arg)
	f.Stream = true
	return f
}

// tell is a frame of another kind, of a request's call and turn.
func tell(kind int, f api.Frame, v uint32) api.Frame {
	return api.Frame{Kind: kind, Client: f.Client, Service: f.Service, Slot: f.Slot, Gen: f.Gen, Call: f.Call, Value: v}
}

// answer is the request with another kind, and what that tells.
func answer(f api.Frame, kind, seq int, v uint32) api.Frame {
	f.Kind, f.Seq, f.Value = kind, seq, v
	return f
}

func reply(f api.Frame, v uint32) api.Frame { return answer(f, api.KindReply, 0, v) }
func busy(f api.Frame) api.Frame            { return answer(f, api.KindFailure, 0, 3) }
func failed(f api.Frame) api.Frame          { return answer(f, api.KindFailure, 0, 1) }

// one is a service of one worker, at which so many wait.
func one(queue int) *server.Server {
	return server.New(api.Service{Workers: 1, Queue: queue, Known: mostEntries, Window: 2})
}

// handles lets a service handle frames.
func handles(s *server.Server, l ...api.Frame) {
	for _, f := range l {
		s.Handle(f)
	}
}

// works fails where a worker does something, or not, against what is wanted.
func works(t *testing.T, s *server.Server, n, out int, want bool) {
	t.Helper()
	if got := s.Work(n, out); got != want {
		t.Fatalf("Work(%d, %d): %v", n, out, got)
	}
}

// does fails where a worker doesn't begin, and end, what is the first that waits at it.
func does(t *testing.T, s *server.Server, n, out int) {
	t.Helper()
	works(t, s, n, api.OutNone, true)
	works(t, s, n, out, true)
}

// waits fails where other answers wait for a client than these; it takes them away.
func waits(t *testing.T, s *server.Server, c int, want ...api.Frame) {
	t.Helper()
	waiting(t, s, c, len(want))
	for i, f := range want {
		if got, ok := s.Next(c); !ok || got != f {
			t.Fatalf("%d: Next(%d): %+v, %v, not %+v", i, c, got, ok, f)
		}
		sends(t, s, c, true)
	}
	nothing(t, s, c)
}

// nothing fails where an answer waits for a client.
func nothing(t *testing.T, s *server.Server, c int) {
	t.Helper()
	waiting(t, s, c, 0)
	if f, ok := s.Next(c); ok || f != (api.Frame{}) {
		t.Fatalf("Next(%d): %+v, %v", c, f, ok)
	}
	sends(t, s, c, false)
	drops(t, s, c, false)
}

// waiting fails where another number of answers waits for a client.
func waiting(t *testing.T, s *server.Server, c, want int) {
	t.Helper()
	if got := s.Waits(c); got != want {
		t.Fatalf("Waits(%d): %d, not %d", c, got, want)
	}
}

// sends fails where the first answer goes, or not, against what is wanted.
func sends(t *testing.T, s *server.Server, c int, want bool) {
	t.Helper()
	if got := s.Sent(c); got != want {
		t.Fatalf("Sent(%d): %v", c, got)
	}
}

// drops fails where the first answer is lost, or not, against what is wanted.
func drops(t *testing.T, s *server.Server, c int, want bool) {
	t.Helper()
	if got := s.Drop(c); got != want {
		t.Fatalf("Drop(%d): %v", c, got)
	}
}

// loaded fails where its workers have other numbers of requests.
func loaded(t *testing.T, s *server.Server, want ...int) {
	t.Helper()
	if got := s.Loads(); !slices.Equal(got, want) {
		t.Fatalf("Loads: %v, not %v", got, want)
	}
}

// ran fails where something else was begun.
func ran(t *testing.T, s *server.Server, want ...api.Frame) {
	t.Helper()
	if got := s.Runs(); !slices.Equal(got, want) {
		t.Fatalf("Runs: %+v, not %+v", got, want)
	}
}

// knows fails where it knows another number of calls.
func knows(t *testing.T, s *server.Server, want int) {
	t.Helper()
	if got := s.Known(); got != want {
		t.Fatalf("Known: %d, not %d", got, want)
	}
}

// stands fails where its state is another one.
func stands(t *testing.T, s *server.Server, want uint32) {
	t.Helper()
	if got := s.State(); got != want {
		t.Fatalf("State: %d, not %d", got, want)
	}
}

// The document's example.
func TestExample(t *testing.T) {
	s := one(1)
	f := request(0, 1, 0, api.MethodTwice, 4)
	handles(s, f)
	works(t, s, 0, api.OutNone, true)
	waiting(t, s, 0, 0)
	works(t, s, 0, api.OutDone, true)
	waits(t, s, 0, reply(f, 8))
}

// The given limits and numbers are those that are told here by their numbers.
func TestNumbers(t *testing.T) {
	got := []int{api.MostClients, api.MostWorkers, api.MostOut, api.MostQueue, api.MostEntries, api.MostWindow, api.MostTry, api.WhyFailed, api.WhyBusy}
	if want := []int{mostClients, mostWorkers, mostOut, mostQueue, mostEntries, mostWindow, mostTry, 1, 3}; !slices.Equal(got, want) {
		t.Fatalf("%v, not %v", got, want)
	}
}

// 27.1: it has from 1 to MostWorkers workers; what is beyond counts as the nearest. A new one has done nothing.
func TestWorkers(t *testing.T) {
	for _, n := range numbers {
		s := server.New(api.Service{Workers: n, Queue: 1, Known: 1, Window: 1})
		if s == nil {
			t.Fatalf("%d: none", n)
		}
		loaded(t, s, make([]int, nearest(n, 1, mostWorkers))...)
		stands(t, s, 0)
		ran(t, s)
		knows(t, s, 0)
		for c := -1; c <= mostClients; c++ {
			nothing(t, s, c)
		}
		for w := -1; w <= mostWorkers; w++ {
			works(t, s, w, api.OutDone, false)
		}
	}
}

// 27.1: at each worker as many wait as is told, from 0 to MostQueue, beside the one that it does.
func TestQueue(t *testing.T) {
	for _, queue := range numbers {
		for workers := 1; workers <= mostWorkers; workers++ {
			s := server.New(api.Service{Workers: workers, Queue: queue, Known: mostEntries, Window: 1})
			room := nearest(queue, 0, mostQueue) + 1
			for i := range room * workers {
				handles(s, request(1, uint32(i), 0, 0, 0))
			}
			full := slices.Repeat([]int{room}, workers)
			loaded(t, s, full...)
			nothing(t, s, 1)
			f := request(1, 999, 0, 0, 0)
			handles(s, f)
			loaded(t, s, full...)
			waits(t, s, 1, busy(f))
		}
	}
}

// 27.1: it knows as many calls as is told, from 0 to MostEntries; one more is refused.
func TestKnown(t *testing.T) {
	for _, known := range numbers {
		s := server.New(api.Service{Workers: 1, Queue: 1, Known: known, Window: 1})
		room := nearest(known, 0, mostEntries)
		for i := range room {
			handles(s, request(2, uint32(i), 0, 0, 0))
			does(t, s, 0, api.OutDone)
			sends(t, s, 2, true)
			knows(t, s, i+1)
		}
		for i, f := range []api.Frame{request(2, 99, 1, 0, 0), sure(2, 99, 1, 0, 0), stream(3, 0, api.MethodCount, 0)} {
			handles(s, f)
			waits(t, s, f.Client, busy(f))
			loaded(t, s, 0)
			knows(t, s, room)
			if room > i { // an elder call is met as ever
				handles(s, request(2, uint32(i), 1, 0, 0))
				loaded(t, s, 1)
				does(t, s, 0, api.OutDone)
				sends(t, s, 2, true)
			}
		}
	}
}

// 27.1: a stream may send as many chunks as its service's window tells.
func TestWindow(t *testing.T) {
	for _, window := range numbers {
		s := server.New(api.Service{Workers: 1, Queue: 1, Known: 1, Window: window})
		f := stream(0, 1, api.MethodCount, 5)
		handles(s, f)
		works(t, s, 0, api.OutChunk, true)
		waiting(t, s, 0, 0)
		var want []api.Frame
		for i := range nearest(window, 1, mostWindow) {
			works(t, s, 0, api.OutChunk, true)
			want = append(want, answer(f, api.KindChunk, i, 5+uint32(i)))
		}
		works(t, s, 0, api.OutChunk, false)
		waits(t, s, 0, want...)
	}
}

// Words: a request goes to the first of those workers that have the least to do.
func TestLeast(t *testing.T) {
	s := server.New(api.Service{Workers: 3, Queue: 1, Known: 9, Window: 1})
	for i, want := range [][]int{{1, 0, 0}, {1, 1, 0}, {1, 1, 1}, {2, 1, 1}} {
		handles(s, request(0, uint32(i), 0, 0, 0))
		loaded(t, s, want...)
	}
	does(t, s, 2, api.OutDone) // what is done is load no more
	loaded(t, s, 2, 1, 0)
	handles(s, request(0, 4, 0, 0, 0))
	loaded(t, s, 2, 1, 1)
	works(t, s, 1, api.OutNone, true) // what is being done is load, too
	loaded(t, s, 2, 1, 1)
	handles(s, request(0, 5, 0, 0, 0), request(0, 6, 0, 0, 0))
	loaded(t, s, 2, 2, 2)
	f := request(0, 7, 0, 0, 0)
	handles(s, f)
	loaded(t, s, 2, 2, 2)
	waits(t, s, 0, reply(request(0, 2, 0, 0, 0), 0), busy(f))
	// Each worker does its own, the first of them first.
	for _, n := range []int{2, 0, 0, 2} {
		does(t, s, n, api.OutDone)
	}
	works(t, s, 1, api.OutDone, true) // what it has begun already
	does(t, s, 1, api.OutDone)
	var calls []uint32
	for _, f := range s.Runs() {
		calls = append(calls, f.Call)
	}
	if want := []uint32{2, 1, 4, 0, 3, 6, 5}; !slices.Equal(calls, want) {
		t.Fatalf("%v, not %v", calls, want)
	}
	loaded(t, s, 0, 0, 0)
}

// Words: where none has room, what is not sure is refused, whether it was met or not; it is not met by that.
func TestNoRoom(t *testing.T) {
	s := one(0)
	f := request(1, 7, 0, api.MethodTwice, 4)
	handles(s, f)
	nothing(t, s, 1)
	again, other := f, request(2, 7, 0, 0, 0)
	again.Try = 3
	for range 2 {
		handles(s, f, again, other)
		waits(t, s, 1, busy(f), busy(again))
		waits(t, s, 2, busy(other))
		loaded(t, s, 1)
		knows(t, s, 1)
	}
	does(t, s, 0, api.OutDone)
	waits(t, s, 1, reply(f, 8))
	handles(s, f) // that was met
	loaded(t, s, 0)
	handles(s, again)
	loaded(t, s, 1)
	does(t, s, 0, api.OutDone)
	waits(t, s, 1, reply(again, 8))
	handles(s, other)
	loaded(t, s, 1)
	knows(t, s, 2)
	does(t, s, 0, api.OutDone)
	waits(t, s, 2, reply(other, 0))
	ran(t, s, f, again, other)
}

// Words: where none has room, a sure call that was never begun is refused, one that was goes on as where there is room.
func TestNoRoomSure(t *testing.T) {
	s := one(0)
	f := sure(1, 7, 0, api.MethodAdd, 4)
	handles(s, f)
	for try := range 4 { // being done: nothing, also for tries that come twice
		again := f
		again.Try = try
		handles(s, again, again)
		nothing(t, s, 1)
	}
	other := sure(1, 8, 0, 0, 0)
	handles(s, other, other)
	waits(t, s, 1, busy(other), busy(other))
	knows(t, s, 1)
	does(t, s, 0, api.OutDone)
	waits(t, s, 1, reply(f, 4))
	handles(s, request(0, 1, 0, 0, 0))
	loaded(t, s, 1)
	for try := range 7 { // done: told again to each other try that was not met
		again := f
		again.Try = try
		handles(s, again, again)
		if try < 4 {
			nothing(t, s, 1)
			continue
		}
		waits(t, s, 1, reply(again, 4))
	}
	for _, try := range []int{math.MinInt, -1, mostTry + 1, math.MaxInt} { // a try that may not be
		again := f
		again.Try = try
		handles(s, again)
		waits(t, s, 1, busy(again))
	}
	plain := f // the same call, by one that is not sure
	plain.Sure, plain.Try = false, 9
	handles(s, plain)
	waits(t, s, 1, busy(plain))
	loaded(t, s, 1)
	stands(t, s, 4)
	ran(t, s, f)
}

// Words: a sure call that was begun, and whose client knows how it ended, counts as never begun.
func TestNoRoomAcked(t *testing.T) {
	s := one(0)
	f := sure(1, 7, 0, 0, 9)
	handles(s, f)
	does(t, s, 0, api.OutDone)
	waits(t, s, 1, reply(f, 9))
	handles(s, request(0, 1, 0, 0, 0), tell(api.KindAck, f, 0))
	again := f
	again.Try = 1
	handles(s, again)
	waits(t, s, 1, busy(again))
	knows(t, s, 1)
}

// Words: a try that may not be is refused.
func TestTries(t *testing.T) {
	for _, try := range numbers {
		for _, f := range []api.Frame{request(3, 5, try, 0, 6), sure(3, 5, try, 0, 6)} {
			s := one(2)
			handles(s, f)
			if try < 0 || try > mostTry {
				loaded(t, s, 0)
				knows(t, s, 0)
				waits(t, s, 3, busy(f))
				continue
			}
			loaded(t, s, 1)
			knows(t, s, 1)
			does(t, s, 0, api.OutDone)
			waits(t, s, 3, reply(f, 6))
		}
	}
}

// Words: each try of what is not sure is done, once.
func TestFresh(t *testing.T) {
	s := one(1)
	f := request(0, 3, 0, api.MethodAdd, 5)
	for try := range 3 {
		f.Try = try
		handles(s, f, f)
		loaded(t, s, 1)
		nothing(t, s, 0)
		works(t, s, 0, api.OutNone, true)
		handles(s, f)
		works(t, s, 0, api.OutDone, true)
		handles(s, f)
		waits(t, s, 0, reply(f, uint32(5+5*try)))
		loaded(t, s, 0)
		knows(t, s, 1)
	}
	stands(t, s, 15)
	ran(t, s, request(0, 3, 0, api.MethodAdd, 5), request(0, 3, 1, api.MethodAdd, 5), request(0, 3, 2, api.MethodAdd, 5))
}

// Words: what is sure is done once; other tries are told what became of it, each once: the request with Kind, Value, and Seq 0.
func TestSure(t *testing.T) {
	for _, wait := range []bool{false, true} {
		s := one(2)
		f := sure(0, 3, 0, api.MethodAdd, 5)
		f.Slot, f.Gen, f.Service = 15, api.MostGen, 3
		handles(s, f)
		if wait {
			works(t, s, 0, api.OutNone, true)
		}
		f.Try = 1
		handles(s, f, f)
		loaded(t, s, 1)
		nothing(t, s, 0)
		if !wait {
			works(t, s, 0, api.OutNone, true)
		}
		works(t, s, 0, api.OutDone, true)
		f.Try = 0
		waits(t, s, 0, reply(f, 5))
		ran(t, s, f)
		handles(s, f)
		f.Try = 1
		handles(s, f)
		nothing(t, s, 0)
		f.Try, f.Slot, f.Gen, f.Service, f.Value, f.Stream = 2, 1, 9, 0, 77, true // it is the request that is answered, as it came
		handles(s, f, f)
		waits(t, s, 0, reply(f, 5))
		stands(t, s, 5)
		loaded(t, s, 0)
		knows(t, s, 1)
	}
}

// 27.1: a failure, an end, and a method that is none are noted as not ok: other tries are told that it failed.
func TestNoted(t *testing.T) {
	streams := sure(0, 1, 0, api.MethodCount, 5)
	streams.Stream = true
	for i, l := range []struct {
		f    api.Frame
		out  int
		want api.Frame
		ok   bool
	}{
		{sure(0, 1, 0, api.MethodTwice, 5), api.OutDone, reply(sure(0, 1, 0, api.MethodTwice, 5), 10), true},
		{sure(0, 1, 0, api.MethodEcho, 0), api.OutDone, reply(sure(0, 1, 0, api.MethodEcho, 0), 0), true},
		{sure(0, 1, 0, api.MethodTwice, 5), api.OutFail, failed(sure(0, 1, 0, api.MethodTwice, 5)), false},
		{sure(0, 1, 0, api.Methods, 5), api.OutDone, failed(sure(0, 1, 0, api.Methods, 5)), false},
		{sure(0, 1, 0, api.MethodCount, 5), api.OutDone, failed(sure(0, 1, 0, api.MethodCount, 5)), false},
		{streams, api.OutDone, answer(streams, api.KindEnd, 0, 0), false},
		{streams, api.OutFail, failed(streams), false},
	} {
		s := one(1)
		handles(s, l.f)
		does(t, s, 0, l.out)
		waits(t, s, 0, l.want)
		again := l.f
		again.Try = 7
		handles(s, again)
		if l.ok {
			waits(t, s, 0, reply(again, l.want.Value))
		} else {
			waits(t, s, 0, failed(again))
		}
		if s.Known() != 1 || len(s.Runs()) != 1 {
			t.Fatalf("%d: %d known, %d run", i, s.Known(), len(s.Runs()))
		}
	}
}

// 27.1: a chunk is no end: what streams is not done by it.
func TestChunkNotNoted(t *testing.T) {
	s := one(1)
	f := stream(0, 1, api.MethodCount, 5)
	f.Sure = true
	handles(s, f)
	works(t, s, 0, api.OutNone, true)
	works(t, s, 0, api.OutChunk, true)
	f.Try = 1
	handles(s, f)
	f.Try = 0
	waits(t, s, 0, answer(f, api.KindChunk, 0, 5))
	works(t, s, 0, api.OutChunk, true)
	works(t, s, 0, api.OutDone, true)
	waits(t, s, 0, answer(f, api.KindChunk, 1, 6), answer(f, api.KindEnd, 2, 0))
	f.Try = 2
	handles(s, f)
	waits(t, s, 0, failed(f))
}

// 27.1: what is noted first counts, whichever try it was of.
func TestNotedFirst(t *testing.T) {
	for _, first := range []int{api.OutDone, api.OutFail} {
		s := server.New(api.Service{Workers: 2, Queue: 1, Known: 4, Window: 1})
		handles(s, request(0, 1, 0, api.MethodEcho, 5), request(0, 1, 1, api.MethodEcho, 6))
		does(t, s, 1, first)
		does(t, s, 0, api.OutDone)
		sends(t, s, 0, true)
		waits(t, s, 0, reply(request(0, 1, 0, api.MethodEcho, 5), 5))
		f := sure(0, 1, 2, api.MethodEcho, 7)
		handles(s, f)
		if first == api.OutDone {
			waits(t, s, 0, reply(f, 6))
		} else {
			waits(t, s, 0, failed(f))
		}
	}
}

// Words: a cancelling goes to each worker: whatever of that call's turn is done, or waits, goes; the call stays known.
func TestCancel(t *testing.T) {
	s := server.New(api.Service{Workers: 3, Queue: 3, Known: 9, Window: 1})
	f := request(1, 5, 0, 0, 0)
	for try := range 6 {
		f.Try = try
		handles(s, f)
		if try == 2 {
			for n := range 3 {
				works(t, s, n, api.OutNone, true)
			}
		}
	}
	other := request(1, 6, 0, 0, 3)
	handles(s, other)
	loaded(t, s, 3, 2, 2)
	for _, g := range []api.Frame{request(2, 5, 0, 0, 0), request(1, 4, 0, 0, 0), {Kind: api.KindCancel, Client: 1, Slot: 3, Gen: 3, Call: 5}, {Kind: api.KindCancel, Client: 1, Slot: 2, Gen: 4, Call: 5}} {
		g.Kind = api.KindCancel
		handles(s, g)
		loaded(t, s, 3, 2, 2)
	}
	handles(s, tell(api.KindCancel, f, 0))
	loaded(t, s, 1, 0, 0)
	knows(t, s, 2)
	nothing(t, s, 1)
	if n := len(s.Runs()); n != 3 {
		t.Fatalf("%d runs", n)
	}
	works(t, s, 1, api.OutDone, false)
	works(t, s, 2, api.OutDone, false)
	does(t, s, 0, api.OutDone)
	waits(t, s, 1, reply(other, 3))
	handles(s, tell(api.KindCancel, f, 0), f)
	loaded(t, s, 0, 0, 0) // that try was met
	f.Try = 9
	handles(s, f)
	loaded(t, s, 1, 0, 0)
}

// Words: of a sure call that was cancelled other tries do nothing, as long as its client does not know how it ended.
func TestCancelSure(t *testing.T) {
	s := one(1)
	f := sure(1, 5, 0, api.MethodAdd, 1)
	handles(s, f)
	works(t, s, 0, api.OutNone, true)
	handles(s, tell(api.KindCancel, f, 0))
	loaded(t, s, 0)
	f.Try = 1
	handles(s, f)
	loaded(t, s, 0)
	nothing(t, s, 1)
	works(t, s, 0, api.OutDone, false)
	stands(t, s, 0)
	handles(s, tell(api.KindAck, f, 0), f)
	loaded(t, s, 1)
}

// Words: credit goes to each worker, for what it streams of that call's turn.
func TestCredit(t *testing.T) {
	s := server.New(api.Service{Workers: 3, Queue: 3, Known: 9, Window: 1})
	f := stream(1, 5, api.MethodPower, 3)
	other := stream(1, 6, api.MethodCount, 3)
	second := f
	second.Try = 1
	handles(s, other, f, second)
	more := tell(api.KindCredit, f, 2)
	handles(s, more) // what waits is not told
	for n := range 3 {
		works(t, s, n, api.OutNone, true)
		works(t, s, n, api.OutChunk, true)
		works(t, s, n, api.OutChunk, false)
	}
	waits(t, s, 1, answer(other, api.KindChunk, 0, 3), answer(f, api.KindChunk, 0, 1), answer(second, api.KindChunk, 0, 1))
	elder := more
	elder.Gen--
	handles(s, elder)
	for n := range 3 {
		works(t, s, n, api.OutChunk, false)
	}
	handles(s, more)
	works(t, s, 0, api.OutChunk, false)
	for n := 1; n < 3; n++ {
		works(t, s, n, api.OutChunk, true)
		works(t, s, n, api.OutChunk, true)
		works(t, s, n, api.OutChunk, false)
	}
	waits(t, s, 1, answer(f, api.KindChunk, 1, 3), answer(f, api.KindChunk, 2, 9), answer(second, api.KindChunk, 1, 3), answer(second, api.KindChunk, 2, 9))
	loaded(t, s, 1, 1, 1)
}

// Words: a call goes when its client knows how it ended; what is done of it goes on, and is noted nowhere.
func TestAck(t *testing.T) {
	s := one(1)
	f := sure(1, 5, 0, api.MethodAdd, 1)
	g := sure(2, 5, 0, api.MethodAdd, 1)
	handles(s, f, g)
	knows(t, s, 2)
	handles(s, tell(api.KindAck, sure(1, 6, 0, 0, 0), 0), tell(api.KindAck, sure(3, 5, 0, 0, 0), 0))
	knows(t, s, 2)
	handles(s, tell(api.KindAck, f, 0))
	knows(t, s, 1)
	loaded(t, s, 2)
	does(t, s, 0, api.OutDone)
	waits(t, s, 1, reply(f, 1))
	handles(s, tell(api.KindAck, f, 0))
	knows(t, s, 1)
	handles(s, f) // it is a new one now
	knows(t, s, 2)
	loaded(t, s, 2)
	does(t, s, 0, api.OutDone)
	waits(t, s, 2, reply(g, 2))
	does(t, s, 0, api.OutDone)
	waits(t, s, 1, reply(f, 3))
	ran(t, s, f, g, f)
}

// 27.1: what is of no kind that is named does nothing.
func TestOtherKinds(t *testing.T) {
	for _, kind := range append(numbers, api.KindReply, api.KindChunk, api.KindEnd, api.KindFailure, api.KindAlarm, api.KindDue) {
		if kind == api.KindRequest || kind == api.KindCancel || kind == api.KindCredit || kind == api.KindAck {
			continue
		}
		s := one(2)
		f := stream(1, 5, api.MethodCount, 1)
		handles(s, f)
		works(t, s, 0, api.OutNone, true)
		g := answer(f, kind, f.Seq, 4)
		handles(s, g)
		g.Call, g.Try = 6, 1
		handles(s, g)
		loaded(t, s, 1)
		knows(t, s, 1)
		nothing(t, s, 1)
		for range 2 {
			works(t, s, 0, api.OutChunk, true)
		}
		works(t, s, 0, api.OutChunk, false)
	}
}

// 27.1: one that does nothing begins, whatever a handler is to do; what it does then changes nothing else.
func TestBegins(t *testing.T) {
	for _, out := range numbers {
		s := one(1)
		f, g := request(1, 5, 0, api.MethodAdd, 1), request(1, 6, 0, api.MethodAdd, 1)
		works(t, s, 0, out, false)
		handles(s, f, g)
		ran(t, s)
		works(t, s, 0, out, true)
		ran(t, s, f)
		loaded(t, s, 2)
		nothing(t, s, 1)
		stands(t, s, 0)
		done := out == api.OutDone || out == api.OutFail
		works(t, s, 0, out, done)
		ran(t, s, f)
		if !done {
			loaded(t, s, 2)
			nothing(t, s, 1)
			continue
		}
		loaded(t, s, 1)
		waiting(t, s, 1, 1)
		works(t, s, 0, out, true)
		ran(t, s, f, g)
		works(t, s, 0, out, true)
		works(t, s, 0, out, false)
		waiting(t, s, 1, 2)
	}
}

// 27.1: of workers that there are not nothing is done.
func TestNoWorker(t *testing.T) {
	for workers := 1; workers <= mostWorkers; workers++ {
		s := server.New(api.Service{Workers: workers, Queue: 8, Known: 64, Window: 1})
		for i := range 2 * workers {
			handles(s, request(0, uint32(i), 0, 0, 0))
		}
		for n := range workers {
			works(t, s, n, api.OutNone, true)
		}
		for _, n := range append(none, workers) {
			for out := range 4 {
				works(t, s, n, out, n >= 0 && n < workers && out > 0 && out < 3)
			}
		}
	}
}

// 27.1: its state is one for all its workers and clients, and is its own.
func TestState(t *testing.T) {
	s, other := server.New(api.Service{Workers: 4, Queue: 8, Known: 64, Window: 1}), one(1)
	var sum uint32
	for i, arg := range []uint32{5, 0, 1 << 31, 7, 1 << 31, math.MaxUint32} {
		add, look := request(i%4, uint32(2*i), 0, api.MethodAdd, arg), request(i%4, uint32(2*i+1), 0, api.MethodLook, 3)
		handles(s, add, look)
		works(t, s, 0, api.OutNone, true)
		works(t, s, 1, api.OutNone, true)
		stands(t, s, sum)
		works(t, s, 1, api.OutDone, true)
		waits(t, s, i%4, reply(look, sum))
		works(t, s, 0, api.OutDone, true)
		sum += arg
		waits(t, s, i%4, reply(add, sum))
		stands(t, s, sum)
	}
	handles(s, request(0, 90, 0, api.MethodAdd, 1))
	does(t, s, 0, api.OutFail)
	stands(t, s, sum)
	stands(t, other, 0)
}

// full is a service of one worker for whose client MostOut answers wait: replies to the calls from 0 on.
func full(t *testing.T, c int) *server.Server {
	t.Helper()
	s := one(1)
	for i := range mostOut {
		handles(s, request(c, uint32(i), 0, api.MethodEcho, uint32(i)))
		does(t, s, 0, api.OutDone)
		waiting(t, s, c, i+1)
	}
	return s
}

// Words: for each client MostOut answers wait; what a request is answered with beyond that is lost.
func TestLost(t *testing.T) {
	for c := range mostClients {
		s := one(0)
		handles(s, request((c+1)%mostClients, 1000, 0, 0, 0))
		var want []api.Frame
		for i := range 2 * mostOut {
			f := request(c, uint32(i), 0, 0, 0)
			handles(s, f)
			if i < mostOut {
				want = append(want, busy(f))
			}
			waiting(t, s, c, min(i+1, mostOut))
		}
		for d := range mostClients {
			if d != c {
				nothing(t, s, d)
			}
		}
		f := request(c, 999, 0, 0, 0)
		sends(t, s, c, true)
		handles(s, f, f)
		waits(t, s, c, append(want[1:], busy(f))...)
	}
}

// Words: what is told again is lost, too, where there is no room; that try was met all the same.
func TestLostAgain(t *testing.T) {
	for _, out := range []int{api.OutDone, api.OutFail} {
		s := one(0)
		f := sure(1, 7, 0, api.MethodAdd, 5)
		handles(s, f)
		does(t, s, 0, out)
		sends(t, s, 1, true)
		handles(s, request(0, 1, 0, 0, 0))
		for i := range mostOut {
			handles(s, request(1, uint32(100+i), 0, 0, 0))
		}
		waiting(t, s, 1, mostOut)
		f.Try = 1
		handles(s, f)
		waiting(t, s, 1, mostOut)
		for range mostOut {
			if g, ok := s.Next(1); !ok || g != busy(g) {
				t.Fatalf("Next: %+v, %v", g, ok)
			}
			sends(t, s, 1, true)
		}
		handles(s, f)
		nothing(t, s, 1)
		f.Try = 2
		handles(s, f)
		waiting(t, s, 1, 1)
	}
}

// 27.1: where the answers that wait for its client have no room, a worker does no step: nothing changes; it begins all the same, and works for others.
func TestFullWaits(t *testing.T) {
	for c := range mostClients {
		s := full(t, c)
		f := sure(c, 500, 0, api.MethodAdd, 9)
		handles(s, f)
		works(t, s, 0, api.OutDone, true) // it begins
		for out := range 4 {
			works(t, s, 0, out, false)
			stands(t, s, 0)
			loaded(t, s, 1)
			waiting(t, s, c, mostOut)
		}
		handles(s, tell(api.KindCancel, f, 0), request((c+1)%mostClients, 1, 0, 0, 0))
		does(t, s, 0, api.OutDone)
		waiting(t, s, (c+1)%mostClients, 1)
		f.Call++
		handles(s, f)
		works(t, s, 0, api.OutDone, true)
		works(t, s, 0, api.OutDone, false)
		sends(t, s, c, true)
		works(t, s, 0, api.OutDone, true)
		stands(t, s, 9)
		waiting(t, s, c, mostOut)
		var want []api.Frame
		for i := range mostOut - 1 {
			want = append(want, reply(request(c, uint32(i+1), 0, 0, 0), uint32(i+1)))
		}
		waits(t, s, c, append(want, reply(f, 9))...)
	}
}

// 27.1: chunks wait for room, too, in their order, none missing.
func TestFullChunks(t *testing.T) {
	s := server.New(api.Service{Workers: 1, Queue: 1, Known: 64, Window: mostWindow})
	f := stream(2, 7, api.MethodCount, 0)
	handles(s, f)
	works(t, s, 0, api.OutNone, true)
	for range 2 {
		handles(s, tell(api.KindCredit, f, mostWindow))
	}
	for range mostOut {
		works(t, s, 0, api.OutChunk, true)
	}
	works(t, s, 0, api.OutChunk, false)
	works(t, s, 0, api.OutDone, false)
	loaded(t, s, 1)
	for i := range mostWindow {
		if got, ok := s.Next(2); !ok || got != answer(f, api.KindChunk, i, uint32(i)) {
			t.Fatalf("Next: %+v, %v", got, ok)
		}
		sends(t, s, 2, true)
		works(t, s, 0, api.OutChunk, true)
		works(t, s, 0, api.OutChunk, false)
	}
	sends(t, s, 2, true)
	works(t, s, 0, api.OutDone, true)
	var want []api.Frame
	for i := mostWindow + 1; i < 3*mostWindow; i++ {
		want = append(want, answer(f, api.KindChunk, i, uint32(i)))
	}
	waits(t, s, 2, append(want, answer(f, api.KindEnd, 3*mostWindow, 0))...)
}

// 27.1: only a reply or a failure can be lost, when it is the first one; whatever it is, it can be sent.
func TestDrop(t *testing.T) {
	s := one(1)
	f, g, h, b := stream(1, 5, api.MethodCount, 7), request(1, 6, 0, api.MethodTwice, 2), request(1, 7, 0, 0, 0), request(2, 8, 0, 0, 0)
	handles(s, g)
	does(t, s, 0, api.OutDone)
	handles(s, h)
	does(t, s, 0, api.OutFail)
	handles(s, f)
	works(t, s, 0, api.OutNone, true)
	works(t, s, 0, api.OutChunk, true)
	works(t, s, 0, api.OutDone, true)
	handles(s, request(1, 9, 0, 0, 0))
	does(t, s, 0, api.OutDone)
	waiting(t, s, 1, 5)
	drops(t, s, 1, true)
	waiting(t, s, 1, 4)
	if got, ok := s.Next(1); !ok || got != failed(h) {
		t.Fatalf("Next: %+v, %v", got, ok)
	}
	drops(t, s, 1, true)
	for i, want := range []api.Frame{answer(f, api.KindChunk, 0, 7), answer(f, api.KindEnd, 1, 0)} {
		drops(t, s, 1, false)
		waiting(t, s, 1, 3-i)
		if got, ok := s.Next(1); !ok || got != want {
			t.Fatalf("Next: %+v, %v", got, ok)
		}
		sends(t, s, 1, true)
	}
	drops(t, s, 2, false)
	drops(t, s, 1, true)
	nothing(t, s, 1)
	handles(s, b, request(2, 9, 0, 0, 0), request(2, 10, 0, 0, 0))
	waiting(t, s, 2, 1) // the third one was refused
	drops(t, s, 2, true)
	nothing(t, s, 2)
}

// 27.1: what is lost, or sent, is known all the same: what is sure is told again.
func TestDropSure(t *testing.T) {
	s := one(1)
	f := sure(1, 5, 0, api.MethodAdd, 7)
	handles(s, f)
	does(t, s, 0, api.OutDone)
	drops(t, s, 1, true)
	nothing(t, s, 1)
	f.Try = 1
	handles(s, f)
	waits(t, s, 1, reply(f, 7))
	stands(t, s, 7)
}

// 27.1: looking at the first answer takes nothing away; each client has its own, in their order.
func TestNext(t *testing.T) {
	s := server.New(api.Service{Workers: 1, Queue: 8, Known: 64, Window: 1})
	for i := range 3 {
		for c := range mostClients {
			handles(s, request(c, uint32(i), 0, api.MethodEcho, uint32(10*c+i)))
			does(t, s, 0, api.OutDone)
		}
	}
	for i := range 3 {
		for c := mostClients - 1; c >= 0; c-- {
			want := reply(request(c, uint32(i), 0, 0, 0), uint32(10*c+i))
			for range 3 {
				if got, ok := s.Next(c); !ok || got != want {
					t.Fatalf("Next(%d): %+v, %v, not %+v", c, got, ok, want)
				}
				waiting(t, s, c, 3-i)
			}
			sends(t, s, c, true)
			waiting(t, s, c, 2-i)
		}
	}
}

// 27.1: for clients that there are not nothing waits; what they ask for is done, and keeps no worker.
func TestNoClient(t *testing.T) {
	for _, c := range none {
		s := one(0)
		f := request(c, 5, 0, api.MethodAdd, 7)
		handles(s, f)
		loaded(t, s, 1)
		knows(t, s, 1)
		handles(s, f, request(c, 6, 0, 0, 0))
		nothing(t, s, c)
		does(t, s, 0, api.OutDone)
		nothing(t, s, c)
		loaded(t, s, 0)
		stands(t, s, 7)
		ran(t, s, f)
		handles(s, sure(c, 5, 1, 0, 0), tell(api.KindCredit, f, 1), tell(api.KindCancel, f, 0), tell(api.KindAck, f, 0))
		knows(t, s, 0)
		for d := -1; d <= mostClients; d++ {
			nothing(t, s, d)
		}
	}
}

// 27.1: what it answers is the caller's own: what is done to that changes nothing here, and later calls change nothing there.
func TestOwn(t *testing.T) {
	s := server.New(api.Service{Workers: 2, Queue: 3, Known: 9, Window: 1})
	f, g := request(0, 1, 0, 0, 0), request(0, 2, 0, 0, 0)
	handles(s, f, g)
	works(t, s, 0, api.OutNone, true)
	runs, loads := s.Runs(), s.Loads()
	works(t, s, 1, api.OutNone, true)
	works(t, s, 1, api.OutDone, true)
	if !slices.Equal(runs, []api.Frame{f}) || !slices.Equal(loads, []int{1, 1}) {
		t.Fatalf("%+v, %v", runs, loads)
	}
	all := s.Runs()
	all[0], loads[0] = api.Frame{}, 9
	_ = append(all[:1], api.Frame{})
	ran(t, s, f, g)
	loaded(t, s, 1, 0)
	first, _ := s.Next(0)
	first.Value++
	waits(t, s, 0, reply(g, 0))
}

// 27.1: two services are two.
func TestTwo(t *testing.T) {
	a, b := one(1), one(1)
	f := sure(1, 5, 0, api.MethodAdd, 7)
	handles(a, f)
	does(t, a, 0, api.OutDone)
	stands(t, b, 0)
	ran(t, b)
	knows(t, b, 0)
	nothing(t, b, 1)
	loaded(t, b, 0)
	handles(b, f)
	does(t, b, 0, api.OutFail)
	waits(t, a, 1, reply(f, 7))
	waits(t, b, 1, failed(f))
}

// 27.1: none does, and tells, nothing.
func TestNone(t *testing.T) {
	var s *server.Server
	f := request(0, 1, 0, 0, 0)
	for kind := -1; kind <= api.KindDue+1; kind++ {
		handles(s, tell(kind, f, 1))
	}
	for _, n := range append(numbers, none...) {
		works(t, s, n, n, false)
		works(t, s, 0, n, false)
		nothing(t, s, n)
	}
	stands(t, s, 0)
	ran(t, s)
	knows(t, s, 0)
	loaded(t, s)
}

// 27.1: a plain one has no workers, and takes nothing.
func TestPlain(t *testing.T) {
	s := &server.Server{}
	for i, f := range []api.Frame{request(0, 1, 0, 0, 0), sure(0, 1, 0, 0, 0), request(0, 1, 99, 0, 0)} {
		handles(s, f)
		waits(t, s, 0, busy(f))
		for kind := api.KindReply; kind <= api.KindDue; kind++ {
			handles(s, tell(kind, f, 1))
		}
		works(t, s, i-1, api.OutDone, false)
		nothing(t, s, 0)
	}
	stands(t, s, 0)
	ran(t, s)
	knows(t, s, 0)
	loaded(t, s)
}
