package handler_test

import (
	"math"
	"math/big"
	"testing"

	"cableway/api"
	"cableway/handler"
)

// methods are all that there are, and numbers that no method has.
var methods = []int{
	math.MinInt, math.MinInt + 1, math.MinInt32, -1 << 32, -256, -6, -2, -1, 0, 1, 2, 3, 4, 5, 6, 7, 8, 15, 16, 255, 256, 257,
	math.MaxInt32, 1 << 32, 1<<32 + 1, 1<<32 + 4, 1<<32 + 5, math.MaxInt - 1, math.MaxInt,
}

// words are arguments and states.
var words = []uint32{
	0, 1, 2, 3, 5, 7, 100, 255, 256, 65535, 65536, 65537, 1<<31 - 1, 1 << 31, 1<<31 + 1, math.MaxUint32 - 2, math.MaxUint32 - 1,
	math.MaxUint32,
}

// places are numbers of chunks that there are.
var places = []int{
	0, 1, 2, 3, 4, 5, 7, 8, 15, 16, 31, 32, 33, 63, 64, 65, 1000, 65535, 65536, math.MaxInt32, 1<<32 - 2, 1<<32 - 1, 1 << 32,
	1<<32 + 1, 1 << 62, math.MaxInt - 1, math.MaxInt,
}

// beyond are numbers of chunks that there are not.
var beyond = []int{math.MinInt, math.MinInt + 1, -1 << 32, 1 - 1<<32, math.MinInt32, -65, -64, -3, -2, -1}

// drawing draws numbers by a rule.
func drawing(seed uint64) func(n int) int {
	return func(n int) int {
		seed = seed*6364136223846793005 + 1442695040888963407
		return int(seed >> 33 % uint64(n))
	}
}

// word is what is left of a number where none is 2^32 or more.
func word(n *big.Int) uint32 {
	return uint32(new(big.Int).Mod(n, big.NewInt(1<<32)).Uint64())
}

// sum is a and b, that do not wrap round ahead of the end.
func sum(a, b int) uint32 {
	return word(new(big.Int).Add(big.NewInt(int64(a)), big.NewInt(int64(b))))
}

// power is x to the power n.
func power(x uint32, n int) uint32 {
	return word(new(big.Int).Exp(big.NewInt(int64(x)), big.NewInt(int64(n)), big.NewInt(1<<32)))
}

// run is what the chapter says that a method comes to.
func run(m int, arg, state uint32) (uint32, uint32, bool) {
	added := sum(int(arg), int(state))
	switch m {
	case 0:
		return arg, state, true
	case 1:
		return added, added, true
	case 2:
		return state, state, true
	case 3:
		return sum(int(arg), int(arg)), state, true
	}
	return 0, state, false
}

func holdRun(t *testing.T, m int, arg, state uint32) {
	t.Helper()
	v, s, ok := handler.Run(m, arg, state)
	wantV, wantS, wantOk := run(m, arg, state)
	if v != wantV || s != wantS || ok != wantOk {
		t.Fatalf("Run(%d, %d, %d) is %d, %d, %v, not %d, %d, %v", m, arg, state, v, s, ok, wantV, wantS, wantOk)
	}
}

func holdChunk(t *testing.T, m int, arg uint32, n int, want uint32) {
	t.Helper()
	if v := handler.Chunk(m, arg, n); v != want {
		t.Fatalf("Chunk(%d, %d, %d) is %d, not %d", m, arg, n, v, want)
	}
}

// The document's example.
func TestExample(t *testing.T) {
	holdChunk(t, api.MethodPower, 3, 2, 9)
}

// 25.1: the methods are those from 0 to Methods - 1: two of them are streams, one changes the state.
func TestMethods(t *testing.T) {
	for _, m := range methods {
		if got, want := handler.Known(m), m >= 0 && m <= 5; got != want {
			t.Errorf("Known(%d) is %v", m, got)
		}
		if got, want := handler.Streams(m), m == 4 || m == 5; got != want {
			t.Errorf("Streams(%d) is %v", m, got)
		}
		if got, want := handler.Changes(m), m == 1; got != want {
			t.Errorf("Changes(%d) is %v", m, got)
		}
	}
}

// 25.1: the methods have the numbers that api tells.
func TestNames(t *testing.T) {
	for _, m := range []int{
		api.MethodEcho, api.MethodAdd, api.MethodLook, api.MethodTwice, api.MethodCount, api.MethodPower, api.Methods - 1,
	} {
		if !handler.Known(m) {
			t.Errorf("method %d is not known", m)
		}
	}
	if handler.Known(api.Methods) {
		t.Error("there is one method too many")
	}
	if !handler.Streams(api.MethodCount) || !handler.Streams(api.MethodPower) {
		t.Error("Count and Power are streams")
	}
	if !handler.Changes(api.MethodAdd) {
		t.Error("Add changes the state")
	}
}

// 25.1: Run, each method by hand.
func TestRunByHand(t *testing.T) {
	for _, c := range []struct {
		m                    int
		arg, state, v, after uint32
		ok                   bool
	}{
		{api.MethodEcho, 7, 100, 7, 100, true},
		{api.MethodEcho, 0, 100, 0, 100, true},
		{api.MethodAdd, 7, 100, 107, 107, true},
		{api.MethodAdd, 0, 100, 100, 100, true},
		{api.MethodAdd, math.MaxUint32, 100, 99, 99, true},
		{api.MethodAdd, 1, math.MaxUint32, 0, 0, true},
		{api.MethodLook, 7, 100, 100, 100, true},
		{api.MethodLook, 7, 0, 0, 0, true},
		{api.MethodTwice, 7, 100, 14, 100, true},
		{api.MethodTwice, 1 << 31, 100, 0, 100, true},
		{api.MethodTwice, math.MaxUint32, 100, math.MaxUint32 - 1, 100, true},
		{api.MethodCount, 7, 100, 0, 100, false},
		{api.MethodPower, 7, 100, 0, 100, false},
		{api.Methods, 7, 100, 0, 100, false},
		{-1, 7, 100, 0, 100, false},
		{math.MaxInt, 7, math.MaxUint32, 0, math.MaxUint32, false},
	} {
		v, after, ok := handler.Run(c.m, c.arg, c.state)
		if v != c.v || after != c.after || ok != c.ok {
			t.Errorf("Run(%d, %d, %d) is %d, %d, %v", c.m, c.arg, c.state, v, after, ok)
		}
	}
}

// 25.1: Run, all methods and those that there are not, at the edges of arguments and states.
func TestRunAtEdges(t *testing.T) {
	for _, m := range methods {
		for _, arg := range words {
			for _, state := range words {
				holdRun(t, m, arg, state)
			}
		}
	}
}

// 25.1: a state changes by no method but those that Changes tells, and Run runs what is known and is no stream.
func TestRunAgrees(t *testing.T) {
	for _, m := range methods {
		changed := false
		for _, arg := range words {
			for _, state := range words {
				_, after, ok := handler.Run(m, arg, state)
				changed = changed || after != state
				if ok != (handler.Known(m) && !handler.Streams(m)) {
					t.Fatalf("Run(%d, %d, %d) is %v", m, arg, state, ok)
				}
			}
		}
		if changed != handler.Changes(m) {
			t.Errorf("Changes(%d) is %v", m, handler.Changes(m))
		}
	}
}

// 25.1: Run, one behind another, each at the state that the one ahead of it left.
func TestRunsInARow(t *testing.T) {
	draw := drawing(25)
	state, want := uint32(0), big.NewInt(0)
	for range 20000 {
		m, arg := draw(9)-1, uint32(draw(1<<31))<<draw(2)|uint32(draw(2))
		holdRun(t, m, arg, state)
		_, state, _ = handler.Run(m, arg, state)
		if m == api.MethodAdd {
			want.Add(want, big.NewInt(int64(arg)))
		}
		if state != word(want) {
			t.Fatalf("the state is %d, not %d", state, word(want))
		}
	}
}

// 25.1: Chunk, streams chunk by chunk, from the first on.
func TestChunksInARow(t *testing.T) {
	for _, arg := range words {
		count, times := arg, uint32(1)
		for n := range 300 {
			holdChunk(t, api.MethodCount, arg, n, count)
			holdChunk(t, api.MethodPower, arg, n, times)
			count++
			times *= arg
		}
	}
}

// 25.1: Chunk, far away: it ends there, too.
func TestChunksFarAway(t *testing.T) {
	for _, arg := range words {
		for _, n := range places {
			holdChunk(t, api.MethodCount, arg, n, sum(int(arg), n))
			holdChunk(t, api.MethodPower, arg, n, power(arg, n))
		}
	}
	draw := drawing(251)
	for range 5000 {
		arg, n := uint32(draw(1<<31))<<1|uint32(draw(2)), draw(1<<31)<<draw(33)
		holdChunk(t, api.MethodCount, arg, n, sum(int(arg), n))
		holdChunk(t, api.MethodPower, arg, n, power(arg, n))
	}
}

// 25.1: Chunk, the first one: 1 for Power, of 0 too, and nothing but 0 behind it then.
func TestFirstChunks(t *testing.T) {
	for _, arg := range words {
		holdChunk(t, api.MethodPower, arg, 0, 1)
		holdChunk(t, api.MethodPower, arg, 1, arg)
		holdChunk(t, api.MethodCount, arg, 0, arg)
		holdChunk(t, api.MethodCount, arg, 1, sum(int(arg), 1))
	}
	for _, n := range places[1:] {
		holdChunk(t, api.MethodPower, 0, n, 0)
		holdChunk(t, api.MethodPower, 1, n, 1)
	}
}

// 25.1: Chunk is 0 below 0, and of no stream.
func TestNoChunks(t *testing.T) {
	for _, m := range methods {
		for _, arg := range words {
			for _, n := range beyond {
				holdChunk(t, m, arg, n, 0)
			}
			if m == api.MethodCount || m == api.MethodPower {
				continue
			}
			for _, n := range places {
				holdChunk(t, m, arg, n, 0)
			}
		}
	}
}
