package worker_test

import (
	"math"
	"testing"

	"cableway/api"
	"cableway/worker"
)

const (
	mostQueue  = 8 // as the given limits are
	mostWindow = 16
	mostSeq    = 65535
)

// numbers are rooms, windows and what handlers do, also what may not be.
var numbers = []int{
	math.MinInt, math.MinInt + 1, math.MinInt32, -1 << 32, -1<<32 + 1, -100, -17, -16, -15, -9, -8, -2, -1, 0, 1, 2, 3, 4, 5, 6, 7, 8, 9, 10,
	14, 15, 16, 17, 18, 31, 32, 33, 100, 255, 256, mostSeq - 1, mostSeq, mostSeq + 1, math.MaxInt32, 1 << 32, 1<<32 + 1, 1<<32 + 3,
	math.MaxInt - 1, math.MaxInt,
}

// values are arguments, states, and how many chunks more may be sent.
var values = []uint32{
	0, 1, 2, 3, 5, 7, 15, 16, 17, 100, 255, 256, 65535, 65536, 1<<31 - 1, 1 << 31, 1<<31 + 1, 1<<31 + 5, math.MaxUint32 - 1, math.MaxUint32,
}

// nearest is the number from one on up to another one that counts for n, case by case.
func nearest(n, from, to int) int {
	switch {
	case n < from:
		return from
	case n > to:
		return to
	}
	return n
}

// request is a request of a client's call, with all of its fields told.
func request(call uint32, method int, arg uint32) api.Frame {
	return api.Frame{
		Kind: api.KindRequest, Client: 1, Service: 2, Slot: 3, Gen: 4, Call: call, Try: 5, Sure: true, Seq: method, Value: arg,
	}
}

// stream is one that streams.
func stream(call uint32, method int, arg uint32) api.Frame {
	f := request(call, method, arg)
	f.Sure, f.Stream = false, true
	return f
}

// more is the frame that lets a request's stream send more.
func more(f api.Frame, n uint32) api.Frame {
	return api.Frame{Kind: api.KindCredit, Client: f.Client, Service: f.Service, Slot: f.Slot, Gen: f.Gen, Call: f.Call, Value: n}
}

// cancel is the frame that cancels a request's call.
func cancel(f api.Frame) api.Frame {
	return api.Frame{Kind: api.KindCancel, Client: f.Client, Service: f.Service, Slot: f.Slot, Gen: f.Gen, Call: f.Call}
}

// answer is the request with another kind, and what that tells.
func answer(f api.Frame, kind, seq int, v uint32) api.Frame {
	f.Kind, f.Seq, f.Value = kind, seq, v
	return f
}

func failure(f api.Frame) api.Frame { return answer(f, api.KindFailure, 0, api.WhyFailed) }

// run is what the chapter of the handlers says that a method comes to, and the state behind it.
func run(m int, arg, state uint32) (uint32, uint32, bool) {
	switch m {
	case 0:
		return arg, state, true
	case 1:
		return arg + state, arg + state, true
	case 2:
		return state, state, true
	case 3:
		return arg + arg, state, true
	}
	return 0, state, false
}

// chunk is what it says that a stream's chunk is.
func chunk(m int, arg uint32, n int) uint32 {
	v := uint32(1)
	switch m {
	case 4:
		return arg + uint32(n)
	case 5:
		for range n {
			v *= arg
		}
		return v
	}
	return 0
}

// puts fails where a request finds room, or none, against what is wanted.
func puts(t *testing.T, w *worker.Worker, f api.Frame, want bool) {
	t.Helper()
	if got := w.Put(f); got != want {
		t.Fatalf("Put(%+v): %v", f, got)
	}
}

// begins fails where the first that waits begins, or not, against what is wanted.
func begins(t *testing.T, w *worker.Worker, window int, want bool) {
	t.Helper()
	if got := w.Begin(window); got != want {
		t.Fatalf("Begin(%d): %v", window, got)
	}
}

// loaded fails where it has another number of requests.
func loaded(t *testing.T, w *worker.Worker, want int) {
	t.Helper()
	if got := w.Load(); got != want {
		t.Fatalf("Load: %d, not %d", got, want)
	}
}

// does fails where it does something else.
func does(t *testing.T, w *worker.Worker, want api.Frame) {
	t.Helper()
	if got, ok := w.Job(); !ok || got != want {
		t.Fatalf("Job: %+v, %v, not %+v", got, ok, want)
	}
}

// rests fails where it does something.
func rests(t *testing.T, w *worker.Worker) {
	t.Helper()
	if got, ok := w.Job(); ok || got != (api.Frame{}) {
		t.Fatalf("Job: %+v, %v", got, ok)
	}
	left(t, w, 0)
}

// left fails where it may send another number of chunks.
func left(t *testing.T, w *worker.Worker, want int) {
	t.Helper()
	if got := w.Left(); got != want {
		t.Fatalf("Left: %d, not %d", got, want)
	}
}

// cancels fails where another number of requests goes.
func cancels(t *testing.T, w *worker.Worker, f api.Frame, want int) {
	t.Helper()
	if got := w.Cancel(f); got != want {
		t.Fatalf("Cancel(%+v): %d, not %d", f, got, want)
	}
}

// credits fails where a stream may send more, or not, against what is wanted.
func credits(t *testing.T, w *worker.Worker, f api.Frame, want bool) {
	t.Helper()
	if got := w.Credit(f); got != want {
		t.Fatalf("Credit(%+v): %v", f, got)
	}
}

// answers fails where a step answers something else.
func answers(t *testing.T, w *worker.Worker, out int, state uint32, want api.Frame, after uint32) {
	t.Helper()
	f, s, ok := w.Step(out, state)
	if !ok || f != want || s != after {
		t.Fatalf("Step(%d, %d): %+v, %d, %v, not %+v, %d", out, state, f, s, ok, want, after)
	}
}

// refuses fails where a step answers anything.
func refuses(t *testing.T, w *worker.Worker, out int, state uint32) {
	t.Helper()
	if f, s, ok := w.Step(out, state); ok || f != (api.Frame{}) || s != 0 {
		t.Fatalf("Step(%d, %d): %+v, %d, %v", out, state, f, s, ok)
	}
}

// doing is a worker that does a request, and at which these wait.
func doing(t *testing.T, f api.Frame, window int, waits ...api.Frame) *worker.Worker {
	t.Helper()
	w := worker.New(len(waits))
	puts(t, w, f, true)
	begins(t, w, window, true)
	does(t, w, f)
	for _, g := range waits {
		puts(t, w, g, true)
	}
	loaded(t, w, 1+len(waits))
	return w
}

// The document's example.
func TestExample(t *testing.T) {
	w := worker.New(1)
	f := request(7, api.MethodTwice, 4)
	puts(t, w, f, true)
	begins(t, w, 1, true)
	answers(t, w, api.OutDone, 0, answer(f, api.KindReply, 0, 8), 0)
}

// The given limits and numbers are those that are told here by their numbers.
func TestNumbers(t *testing.T) {
	if api.MostQueue != mostQueue || api.MostWindow != mostWindow || api.MostSeq != mostSeq {
		t.Fatal("the limits are others")
	}
	if api.OutNone != 0 || api.OutDone != 1 || api.OutFail != 2 || api.OutChunk != 3 {
		t.Fatal("what handlers do has other numbers")
	}
}

// 26.1: from 0 to MostQueue wait, beside the one that it does; what is beyond counts as the nearest.
func TestNew(t *testing.T) {
	for _, room := range numbers {
		w := worker.New(room)
		if w == nil {
			t.Fatalf("New(%d): none", room)
		}
		want := nearest(room, 0, mostQueue) + 1
		if got := w.Room(); got != want {
			t.Fatalf("New(%d): Room is %d, not %d", room, got, want)
		}
		loaded(t, w, 0)
		rests(t, w)
		begins(t, w, 1, false)
	}
}

// 26.1: it has room for the one that it does, and those that wait; whether it does one yet, or not.
func TestPut(t *testing.T) {
	for _, room := range numbers {
		most := nearest(room, 0, mostQueue) + 1
		for when := range most + 1 {
			w := worker.New(room)
			for i := range most {
				if i == when {
					begins(t, w, 1, i > 0)
				}
				puts(t, w, request(uint32(i), 0, 0), true)
				loaded(t, w, i+1)
			}
			for range 3 {
				puts(t, w, request(99, 0, 0), false)
				loaded(t, w, most)
			}
			begins(t, w, 1, when == 0 || when == most)
			puts(t, w, request(99, 0, 0), false)
			loaded(t, w, most)
			if got := w.Room(); got != most {
				t.Fatalf("Room: %d, not %d", got, most)
			}
		}
	}
}

// 26.1: what is done, or goes, makes room for one each.
func TestRoomAgain(t *testing.T) {
	for _, out := range []int{api.OutDone, api.OutFail} {
		w := doing(t, request(1, 0, 0), 1, request(2, 0, 0), request(2, 0, 0))
		puts(t, w, request(3, 0, 0), false)
		if _, _, ok := w.Step(out, 0); !ok {
			t.Fatalf("Step(%d): false", out)
		}
		loaded(t, w, 2)
		puts(t, w, request(4, 0, 0), true)
		puts(t, w, request(5, 0, 0), false)
		cancels(t, w, request(2, 0, 0), 2)
		loaded(t, w, 1)
		puts(t, w, request(6, 0, 0), true)
		puts(t, w, request(7, 0, 0), true)
		puts(t, w, request(8, 0, 0), false)
		for _, call := range []uint32{4, 6, 7} {
			begins(t, w, 1, true)
			does(t, w, request(call, 0, 0))
			w.Step(out, 0)
		}
		loaded(t, w, 0)
	}
}

// 26.1: any request is put, and done, as it is told; tries of one call, and the same one again, are others.
func TestPutAsItIs(t *testing.T) {
	for _, f := range []api.Frame{
		{},
		{Kind: api.KindRequest, Client: 3, Service: 3, Slot: 15, Gen: api.MostGen, Call: math.MaxUint32, Try: 15, Sure: true, Seq: mostSeq, Value: math.MaxUint32},
		{Kind: -1, Client: math.MinInt, Service: -1, Slot: math.MaxInt, Gen: -7, Try: 99, Stream: true, Seq: math.MinInt, Value: 3},
		{Kind: api.KindAck, Sure: true, Stream: true, Seq: math.MaxInt},
	} {
		again := f
		again.Try++
		w := doing(t, f, 2, f, again)
		for _, g := range []api.Frame{f, f, again} {
			does(t, w, g)
			answers(t, w, api.OutFail, 9, failure(g), 9)
			rests(t, w)
			w.Begin(2)
		}
		loaded(t, w, 0)
	}
}

// 26.1: the first that waits is done; only where it does none, and one waits.
func TestBegin(t *testing.T) {
	w := worker.New(3)
	begins(t, w, 1, false)
	rests(t, w)
	for call := range uint32(3) {
		puts(t, w, request(call, 0, call), true)
		rests(t, w)
	}
	for call := range uint32(50) {
		begins(t, w, 1, true)
		f := request(call, 0, call)
		for range 2 {
			does(t, w, f)
			loaded(t, w, 3)
			begins(t, w, 1, false)
		}
		puts(t, w, request(call+3, 0, call+3), true)
		answers(t, w, api.OutDone, 5, answer(f, api.KindReply, 0, call), 5)
		rests(t, w)
		loaded(t, w, 3)
	}
}

// 26.1: a stream may send a window's chunks (1 to MostWindow), whatever was left of the one ahead of it; what is no stream may send none.
func TestBeginWindow(t *testing.T) {
	for _, window := range numbers {
		for _, m := range []int{-1, api.MethodEcho, api.MethodCount, api.MethodPower, api.Methods} {
			want := nearest(window, 1, mostWindow)
			w := doing(t, stream(1, m, 2), window, stream(2, m, 2), request(3, m, 2), stream(4, m, 2))
			left(t, w, want)
			begins(t, w, 3, false)
			left(t, w, want)
			for _, may := range []int{want, 0, want} {
				w.Step(api.OutFail, 0)
				rests(t, w)
				begins(t, w, window, true)
				left(t, w, may)
			}
			w.Step(api.OutDone, 0)
			rests(t, w)
		}
	}
}

// 26.1: Job tells, and changes nothing; what is done to what it told changes nothing either.
func TestJob(t *testing.T) {
	f := stream(1, api.MethodCount, 7)
	w := doing(t, f, 2)
	got, _ := w.Job()
	got.Call, got.Value, got.Stream = 8, 9, false
	does(t, w, f)
	loaded(t, w, 1)
	answers(t, w, api.OutChunk, 0, answer(f, api.KindChunk, 0, 7), 0)
	does(t, w, f)
}

// otherTurns are frames of other turns than a request's, each by one of the numbers that count.
func otherTurns(f api.Frame) []api.Frame {
	all := []api.Frame{f, f, f, f, f, f, f, f}
	all[0].Client++
	all[1].Client -= 1 << 32
	all[2].Slot++
	all[3].Slot -= 256
	all[4].Gen++
	all[5].Gen -= 1 << 24
	all[6].Call++
	all[7].Call += 1 << 31
	return all
}

// sameTurn are frames of the same turn as a request, that have nothing else of it.
func sameTurn(f api.Frame) []api.Frame {
	turn := api.Frame{Client: f.Client, Slot: f.Slot, Gen: f.Gen, Call: f.Call}
	full := api.Frame{
		Kind: -1, Client: f.Client, Service: 77, Slot: f.Slot, Gen: f.Gen, Call: f.Call, Try: -3, Sure: !f.Sure, Stream: !f.Stream, Seq: f.Seq + 9,
		Value: 1,
	}
	return []api.Frame{turn, f, cancel(f), more(f, 1), full}
}

// 26.1: what is of the call's turn goes, what it does and what waits, all tries of it; nothing else counts, and nothing else goes.
func TestCancel(t *testing.T) {
	f := request(5, 0, 1)
	again := answer(f, api.KindRequest, 2, 9)
	again.Try, again.Stream, again.Service = 6, true, 3
	for _, g := range sameTurn(f) {
		others := otherTurns(f)
		w := doing(t, f, 3, others[0], f, others[2], again, others[4], others[6])
		cancels(t, w, g, 3)
		loaded(t, w, 4)
		rests(t, w)
		cancels(t, w, g, 0)
		for _, i := range []int{0, 2, 4, 6} {
			begins(t, w, 1, true)
			does(t, w, others[i])
			cancels(t, w, g, 0)
			does(t, w, others[i])
			cancels(t, w, others[i], 1)
		}
		loaded(t, w, 0)
		begins(t, w, 1, false)
	}
}

// 26.1: a frame of another turn, by one number alone, lets all stay.
func TestCancelOthers(t *testing.T) {
	f := request(5, 0, 1)
	for _, g := range otherTurns(f) {
		w := doing(t, f, 1, f)
		cancels(t, w, g, 0)
		loaded(t, w, 2)
		does(t, w, f)
		cancels(t, w, f, 2)
		loaded(t, w, 0)
	}
}

// 26.1: what waits goes, where it does another one, or none; what it does goes on.
func TestCancelWaiting(t *testing.T) {
	f, g := request(5, 0, 1), stream(6, 4, 1)
	w := doing(t, g, 3, f, g, f)
	cancels(t, w, f, 2)
	does(t, w, g)
	left(t, w, 3)
	loaded(t, w, 2)
	w = worker.New(3)
	for _, h := range []api.Frame{f, g, f, g} {
		puts(t, w, h, true)
	}
	cancels(t, w, f, 2)
	rests(t, w)
	loaded(t, w, 2)
	begins(t, w, 1, true)
	does(t, w, g)
	cancels(t, worker.New(3), f, 0)
}

// 26.1: each of several, where it stands: it goes, the others stay in their order.
func TestCancelEach(t *testing.T) {
	for which := range 1 << 5 {
		for begun := range 2 {
			w := worker.New(4)
			gone := 0
			for i := range 5 {
				f := request(uint32(i), 0, 0)
				if which>>i&1 == 1 {
					f = request(100, 0, 0)
					gone++
				}
				puts(t, w, f, true)
				if begun == 1 && i == 0 {
					begins(t, w, 1, true)
				}
			}
			cancels(t, w, cancel(request(100, 0, 0)), gone)
			loaded(t, w, 5-gone)
			for i := range 5 {
				if which>>i&1 == 1 {
					continue
				}
				begins(t, w, 1, begun == 0 || i > 0)
				does(t, w, request(uint32(i), 0, 0))
				w.Step(api.OutDone, 0)
			}
			loaded(t, w, 0)
		}
	}
}

// 26.1: a stream that went leaves nothing of what it might send to the next one.
func TestCancelForgets(t *testing.T) {
	w := doing(t, stream(1, 4, 1), 5, request(2, 0, 0), stream(3, 4, 10))
	answers(t, w, api.OutChunk, 0, answer(stream(1, 4, 1), api.KindChunk, 0, 1), 0)
	cancels(t, w, stream(1, 4, 1), 1)
	rests(t, w)
	refuses(t, w, api.OutChunk, 0)
	refuses(t, w, api.OutDone, 0)
	begins(t, w, 5, true)
	left(t, w, 0)
	cancels(t, w, request(2, 0, 0), 1)
	begins(t, w, 2, true)
	left(t, w, 2)
	answers(t, w, api.OutChunk, 0, answer(stream(3, 4, 10), api.KindChunk, 0, 10), 0)
}

// 26.1: its stream may send so many more, MostWindow at most each time; by the turn alone.
func TestCredit(t *testing.T) {
	f := stream(5, 4, 1)
	for _, n := range values {
		want := int(min(n, mostWindow))
		w := doing(t, f, 2)
		credits(t, w, more(f, n), true)
		left(t, w, 2+want)
		credits(t, w, more(f, n), true)
		left(t, w, 2+2*want)
		credits(t, w, more(f, 0), true)
		left(t, w, 2+2*want)
	}
	for _, g := range sameTurn(f) {
		g.Value = 3
		w := doing(t, f, 2)
		credits(t, w, g, true)
		left(t, w, 5)
		does(t, w, f)
	}
}

// 26.1: nothing is let to another turn's stream, to one that waits, to what is no stream, or where nothing is done.
func TestCreditNone(t *testing.T) {
	f := stream(5, 4, 1)
	for _, g := range otherTurns(f) {
		w := doing(t, f, 2, g)
		credits(t, w, more(g, 3), false)
		left(t, w, 2)
		does(t, w, f)
		w.Step(api.OutDone, 0)
		credits(t, w, more(f, 3), false)
		credits(t, w, more(g, 3), false)
		left(t, w, 0)
		begins(t, w, 4, true)
		left(t, w, 4)
		credits(t, w, more(f, 3), false)
		left(t, w, 4)
		credits(t, w, more(g, 3), true)
		left(t, w, 7)
	}
	for m := -1; m <= api.Methods; m++ {
		w := doing(t, request(5, m, 1), 2)
		credits(t, w, more(f, 3), false)
		left(t, w, 0)
		refuses(t, w, api.OutChunk, 0)
	}
	credits(t, worker.New(2), more(f, 3), false)
}

// 26.2: each method's reply, and the state behind it; where it is none, or a stream though the request is none, it failed.
func TestDone(t *testing.T) {
	for _, m := range append([]int{api.MostSeq - 1, -1 << 32, 1 << 32, 1<<32 + 1}, numbers...) {
		for _, arg := range values {
			for _, state := range values {
				f := request(9, m, arg)
				w := doing(t, f, 1)
				v, after, ok := run(m, arg, state)
				want := answer(f, api.KindReply, 0, v)
				if !ok {
					want = failure(f)
				}
				answers(t, w, api.OutDone, state, want, after)
				rests(t, w)
				loaded(t, w, 0)
			}
		}
	}
}

// 26.2: the methods by hand.
func TestDoneByHand(t *testing.T) {
	for _, c := range []struct {
		m              int
		kind           int
		v, after, want uint32
	}{
		{api.MethodEcho, api.KindReply, 7, 100, 7},
		{api.MethodAdd, api.KindReply, 7, 107, 107},
		{api.MethodAdd, api.KindReply, math.MaxUint32, 99, 99},
		{api.MethodLook, api.KindReply, 7, 100, 100},
		{api.MethodTwice, api.KindReply, 7, 100, 14},
		{api.MethodCount, api.KindFailure, 7, 100, api.WhyFailed},
		{api.MethodPower, api.KindFailure, 7, 100, api.WhyFailed},
		{api.Methods, api.KindFailure, 7, 100, api.WhyFailed},
		{-1, api.KindFailure, 7, 100, api.WhyFailed},
	} {
		f := request(9, c.m, c.v)
		answers(t, doing(t, f, 1), api.OutDone, 100, answer(f, c.kind, 0, c.want), c.after)
	}
}

// 26.2: what fails says so, whatever it is and however far it came, and changes no state.
func TestFail(t *testing.T) {
	for _, state := range values {
		for m := -1; m <= api.Methods; m++ {
			f, g := request(9, m, 7), stream(8, m, 7)
			w := doing(t, f, 3, g, g)
			answers(t, w, api.OutFail, state, failure(f), state)
			rests(t, w)
			loaded(t, w, 2)
			begins(t, w, 3, true)
			answers(t, w, api.OutFail, state, failure(g), state)
			rests(t, w)
			begins(t, w, 3, true)
			answers(t, w, api.OutChunk, state, answer(g, api.KindChunk, 0, chunk(m, 7, 0)), state)
			answers(t, w, api.OutFail, state, failure(g), state)
			rests(t, w)
			loaded(t, w, 0)
		}
	}
}

// 26.2: a stream's end tells how many chunks were sent, none to all that might be, and changes no state.
func TestEnd(t *testing.T) {
	for _, m := range []int{-1, api.MethodEcho, api.MethodAdd, api.MethodCount, api.MethodPower, api.Methods} {
		f := stream(8, m, 3)
		for sent := range mostWindow + 1 {
			w := doing(t, f, mostWindow)
			for n := range sent {
				answers(t, w, api.OutChunk, 50, answer(f, api.KindChunk, n, chunk(m, 3, n)), 50)
			}
			left(t, w, mostWindow-sent)
			answers(t, w, api.OutDone, 50, answer(f, api.KindEnd, sent, 0), 50)
			rests(t, w)
			refuses(t, w, api.OutChunk, 50)
			loaded(t, w, 0)
		}
	}
}

// 26.2: chunks come in order, each as the method has it, as long as they may be sent; then none, till more may be.
func TestChunks(t *testing.T) {
	for _, m := range []int{api.MethodCount, api.MethodPower} {
		for _, arg := range values {
			f := stream(8, m, arg)
			w := doing(t, f, 3)
			n := 0
			for _, give := range []int{0, 1, 2, 5, mostWindow, 0, 3} {
				if give > 0 {
					refuses(t, w, api.OutChunk, 6)
					credits(t, w, more(f, uint32(give)), true)
				}
				for w.Left() > 0 {
					before := w.Left()
					answers(t, w, api.OutChunk, arg, answer(f, api.KindChunk, n, chunk(m, arg, n)), arg)
					left(t, w, before-1)
					does(t, w, f)
					loaded(t, w, 1)
					n++
				}
				for range 2 {
					refuses(t, w, api.OutChunk, arg)
					does(t, w, f)
				}
			}
			answers(t, w, api.OutDone, 1, answer(f, api.KindEnd, 3+1+2+5+mostWindow+3, 0), 1)
		}
	}
}

// 26.2: what is no stream has no chunks, whatever its method, and goes on.
func TestNoChunks(t *testing.T) {
	for m := -1; m <= api.Methods; m++ {
		f := request(8, m, 3)
		w := doing(t, f, 3)
		for range 2 {
			refuses(t, w, api.OutChunk, 6)
			does(t, w, f)
			left(t, w, 0)
		}
	}
}

// 26.2: the last chunk is the one ahead of MostSeq, so that the end can tell how many there were; also where more might be sent.
func TestMostSeq(t *testing.T) {
	for _, m := range []int{api.MethodCount, api.MethodPower} {
		f := stream(8, m, 3)
		w := doing(t, f, mostWindow)
		v := chunk(m, 3, 0)
		for n := range mostSeq {
			answers(t, w, api.OutChunk, 0, answer(f, api.KindChunk, n, v), 0)
			credits(t, w, more(f, 1), true)
			if m == api.MethodCount {
				v++
			} else {
				v *= 3
			}
		}
		for range 3 {
			refuses(t, w, api.OutChunk, 7)
			does(t, w, f)
			credits(t, w, more(f, 1), true)
		}
		answers(t, w, api.OutDone, 7, answer(f, api.KindEnd, mostSeq, 0), 7)
		rests(t, w)
	}
}

// 26.2: whatever else a handler does is nothing, and changes nothing.
func TestOuts(t *testing.T) {
	f, g := request(8, api.MethodAdd, 3), stream(9, api.MethodCount, 3)
	w := doing(t, f, 3, g)
	v := doing(t, g, 3, f)
	for _, out := range numbers {
		if out >= api.OutDone && out <= api.OutChunk {
			continue
		}
		for _, state := range values {
			refuses(t, w, out, state)
			refuses(t, v, out, state)
		}
		does(t, w, f)
		loaded(t, w, 2)
		does(t, v, g)
		left(t, v, 3)
		loaded(t, v, 2)
	}
	answers(t, w, api.OutDone, 4, answer(f, api.KindReply, 0, 7), 7)
	answers(t, v, api.OutChunk, 4, answer(g, api.KindChunk, 0, 3), 4)
}

// 26.2: where it does nothing, no step answers, though some wait.
func TestIdle(t *testing.T) {
	w := worker.New(2)
	for waits := range 3 {
		for _, out := range numbers {
			for _, state := range values {
				refuses(t, w, out, state)
			}
		}
		rests(t, w)
		loaded(t, w, waits)
		puts(t, w, stream(uint32(waits), api.MethodCount, 1), true)
	}
}

// 26.2: an answer is the request, but for Kind, Seq and Value, whatever it has.
func TestAnswersAsTheyAre(t *testing.T) {
	for i, f := range []api.Frame{
		{Kind: api.KindRequest, Client: 3, Service: 3, Slot: 15, Gen: api.MostGen, Call: math.MaxUint32, Try: 15, Sure: true, Value: 6},
		{Kind: -1, Client: math.MinInt, Service: -1, Slot: math.MaxInt, Gen: -7, Try: 99, Value: 6},
		{Kind: api.KindAck, Value: 6},
	} {
		answers(t, doing(t, f, 1), api.OutDone, 1, answer(f, api.KindReply, 0, 6), 1)
		answers(t, doing(t, f, 1), api.OutFail, 1, failure(f), 1)
		f.Stream, f.Seq, f.Sure = true, api.MethodPower, i == 1
		w := doing(t, f, 2)
		answers(t, w, api.OutChunk, 1, answer(f, api.KindChunk, 0, 1), 1)
		answers(t, w, api.OutChunk, 1, answer(f, api.KindChunk, 1, 6), 1)
		answers(t, w, api.OutDone, 1, answer(f, api.KindEnd, 2, 0), 1)
	}
}

// 26.1 and 26.2: of none, all is nothing.
func TestNone(t *testing.T) {
	var w *worker.Worker
	f := stream(1, 4, 1)
	for _, n := range numbers {
		puts(t, w, f, false)
		begins(t, w, n, false)
		credits(t, w, more(f, uint32(n)), false)
		cancels(t, w, f, 0)
		refuses(t, w, n, 5)
		rests(t, w)
		loaded(t, w, 0)
		if got := w.Room(); got != 0 {
			t.Fatalf("Room: %d", got)
		}
	}
}

// 26.1: a plain one is as one of New(0): it has room for the one that it does alone.
func TestPlain(t *testing.T) {
	w := &worker.Worker{}
	if got := w.Room(); got != 1 {
		t.Fatalf("Room: %d", got)
	}
	rests(t, w)
	f := request(1, api.MethodEcho, 2)
	puts(t, w, f, true)
	puts(t, w, f, false)
	begins(t, w, 1, true)
	puts(t, w, f, false)
	answers(t, w, api.OutDone, 5, answer(f, api.KindReply, 0, 2), 5)
	loaded(t, w, 0)
}

// Two workers are two.
func TestTwo(t *testing.T) {
	w, v := worker.New(2), worker.New(2)
	f := stream(1, 4, 1)
	puts(t, w, f, true)
	begins(t, w, 3, true)
	rests(t, v)
	loaded(t, v, 0)
	cancels(t, v, f, 0)
	credits(t, v, more(f, 2), false)
	left(t, w, 3)
}

// task is what a plain worker has: one of the requests that were put, how many chunks of it may be sent in all, and were.
type task struct {
	f    api.Frame
	may  int
	sent int
}

// plain is a worker as a list; what it does is the first one, where it does one.
type plain struct {
	room  int
	tasks []*task
	busy  bool
}

func (p *plain) put(f api.Frame) bool {
	if len(p.tasks) > p.room {
		return false
	}
	p.tasks = append(p.tasks, &task{f: f})
	return true
}

func (p *plain) begin(window int) bool {
	if p.busy || len(p.tasks) == 0 {
		return false
	}
	p.busy = true
	if p.tasks[0].f.Stream {
		p.tasks[0].may = nearest(window, 1, mostWindow)
	}
	return true
}

// sameCall tells whether two frames are of the same turn of the same call.
func sameCall(f, g api.Frame) bool {
	return f.Client == g.Client && f.Slot == g.Slot && f.Gen == g.Gen && f.Call == g.Call
}

func (p *plain) cancel(f api.Frame) int {
	var stay []*task
	busy := p.busy
	for i, k := range p.tasks {
		switch {
		case !sameCall(k.f, f):
			stay = append(stay, k)
		case i == 0:
			busy = false
		}
	}
	gone := len(p.tasks) - len(stay)
	p.tasks, p.busy = stay, busy
	return gone
}

func (p *plain) credit(f api.Frame) bool {
	if !p.busy || !p.tasks[0].f.Stream || !sameCall(p.tasks[0].f, f) {
		return false
	}
	p.tasks[0].may += int(min(f.Value, mostWindow))
	return true
}

func (p *plain) step(out int, state uint32) (api.Frame, uint32, bool) {
	if !p.busy {
		return api.Frame{}, 0, false
	}
	k := p.tasks[0]
	f, after := failure(k.f), state
	switch {
	case out == api.OutChunk && k.sent < k.may:
		f = answer(k.f, api.KindChunk, k.sent, chunk(k.f.Seq, k.f.Value, k.sent))
		k.sent++
		return f, state, true
	case out == api.OutDone && k.f.Stream:
		f = answer(k.f, api.KindEnd, k.sent, 0)
	case out == api.OutDone:
		if v, next, ok := run(k.f.Seq, k.f.Value, state); ok {
			f, after = answer(k.f, api.KindReply, 0, v), next
		}
	case out != api.OutFail:
		return api.Frame{}, 0, false
	}
	p.tasks, p.busy = p.tasks[1:], false
	return f, after, true
}

// same fails where a worker stands otherwise than the plain one.
func same(t *testing.T, w *worker.Worker, p *plain) {
	t.Helper()
	loaded(t, w, len(p.tasks))
	if w.Room() != p.room+1 || w.Load() > w.Room() {
		t.Fatalf("%d with room for %d, not %d", w.Load(), w.Room(), p.room+1)
	}
	if !p.busy {
		rests(t, w)
		return
	}
	does(t, w, p.tasks[0].f)
	left(t, w, p.tasks[0].may-p.tasks[0].sent)
}

// steps does a step of both; it is the state behind it.
func steps(t *testing.T, w *worker.Worker, p *plain, out int, state uint32) uint32 {
	t.Helper()
	f, after, ok := p.step(out, state)
	if !ok {
		refuses(t, w, out, state)
		return state
	}
	answers(t, w, out, state, f, after)
	return after
}

// 26.1 and 26.2: each order of five calls, against a list.
func TestAllOrders(t *testing.T) {
	const kinds, length = 9, 5
	orders := 1
	for range length {
		orders *= kinds
	}
	add, flow := request(1, api.MethodAdd, 3), stream(2, api.MethodCount, 5)
	for room := range 2 {
		for order := range orders {
			w, p := worker.New(room), &plain{room: room}
			state := uint32(10)
			for i, rest := 0, order; i < length; i, rest = i+1, rest/kinds {
				switch rest % kinds {
				case 0:
					puts(t, w, add, p.put(add))
				case 1:
					puts(t, w, flow, p.put(flow))
				case 2:
					begins(t, w, 1, p.begin(1))
				case 3:
					cancels(t, w, cancel(add), p.cancel(add))
				case 4:
					cancels(t, w, cancel(flow), p.cancel(flow))
				case 5:
					credits(t, w, more(flow, 1), p.credit(more(flow, 1)))
				default:
					state = steps(t, w, p, rest%kinds-5, state)
				}
				same(t, w, p)
			}
		}
	}
}

// 26.1 and 26.2: long runs drawn by a rule, against a list.
func TestLong(t *testing.T) {
	seed := uint64(26)
	draw := func(n int) int {
		seed = seed*6364136223846793005 + 1442695040888963407
		return int(seed >> 33 % uint64(n))
	}
	for i := range 100 {
		room := draw(mostQueue+5) - 2
		w, p := worker.New(room), &plain{room: nearest(room, 0, mostQueue)}
		state := uint32(draw(1 << 31))
		often := 1 + draw(8)
		for range 2000 {
			f := request(uint32(draw(3)), draw(8)-1, uint32(draw(1<<31)))
			f.Client, f.Slot, f.Gen, f.Try, f.Stream = draw(2), draw(2), 1, draw(3), draw(2) == 0
			f.Sure = !f.Stream
			if p.busy && draw(3) > 0 {
				f.Client, f.Slot, f.Call = p.tasks[0].f.Client, p.tasks[0].f.Slot, p.tasks[0].f.Call
			}
			switch what := draw(20 + often); {
			case what < 6:
				puts(t, w, f, p.put(f))
			case what < 10:
				window := draw(mostWindow+6) - 3
				begins(t, w, window, p.begin(window))
			case what < 11:
				cancels(t, w, f, p.cancel(f))
			case what < 13:
				f.Value = uint32(draw(2 * mostWindow))
				credits(t, w, f, p.credit(f))
			case what < 15:
				state = steps(t, w, p, draw(5)-1, state)
			default:
				state = steps(t, w, p, api.OutChunk-(i+often)%2*draw(2), state)
			}
			same(t, w, p)
		}
	}
}
