package tests

import (
	"math"
	"slices"
	"strings"
	"testing"

	"loop.example/lens/impl"
)

// asked is an ask, and what it is to be told.
type asked struct {
	ask  impl.Ask
	want impl.Told
}

func op(n int) impl.Ask { return impl.Ask{Op: n} }

func opN(o, n int) impl.Ask { return impl.Ask{Op: o, N: n} }

func stopAsk(s impl.Stop) impl.Ask { return impl.Ask{Op: impl.AStop, Stop: s} }

func valueAsk(name string) impl.Ask { return impl.Ask{Op: impl.AValue, Name: name} }

func at(k int) impl.Told { return impl.Told{At: k} }

func code(k, n int) impl.Told { return impl.Told{At: k, Code: n} }

func num(k, n int) impl.Told { return impl.Told{At: k, Num: n} }

func text(k int, s string) impl.Told { return impl.Told{At: k, Text: s} }

func vars(k int, list ...impl.Var) impl.Told { return impl.Told{At: k, Vars: list} }

func stack(k, running int, list ...impl.Frame) impl.Told {
	return impl.Told{At: k, Num: running, Stack: list}
}

// sameTold takes an empty list and nil for the same.
func sameTold(a, b impl.Told) bool {
	return a.At == b.At && a.Code == b.Code && a.Num == b.Num && a.Text == b.Text &&
		slices.Equal(a.Stack, b.Stack) && slices.Equal(a.Vars, b.Vars)
}

func wantAnswers(t *testing.T, x impl.Trace, asks []impl.Ask, want []impl.Told) {
	t.Helper()
	got := impl.Look(x, asks)
	if len(got) != len(want) {
		t.Fatalf("%d asks have %d answers, want %d", len(asks), len(got), len(want))
	}
	for i := range want {
		if !sameTold(got[i], want[i]) {
			t.Errorf("ask %d, %+v: told %+v, want %+v", i, asks[i], got[i], want[i])
		}
	}
}

func wantTold(t *testing.T, x impl.Trace, list ...asked) {
	t.Helper()
	var asks []impl.Ask
	var want []impl.Told
	for _, a := range list {
		asks = append(asks, a.ask)
		want = append(want, a.want)
	}
	wantAnswers(t, x, asks, want)
}

// looked has two tasks, variables that hide others of their name, and something thrown and caught.
func looked() impl.Trace {
	return trace(
		with(line(0, 0, 1), "n", "5"),                 // 0
		with(call(0, 1), "x", "1"),                    // 1
		with(with(line(0, 1, 10), "x", "1"), "y", ""), // 2
		turn(1),                        // 3
		call(1, 2),                     // 4
		with(line(1, 2, 20), "z", "7"), // 5
		turn(0),                        // 6
		with(with(with(line(0, 1, 11), "x", "9"), "y", "3"), "x", "2"), // 7
		with(say(impl.MThrow, 0, 1), "x", "2"),                         // 8
		with(back(0, 1), "x", "2"),                                     // 9
		say(impl.MCatch, 0, 0),                                         // 10
		with(line(0, 0, 2), "n", "6"),                                  // 11
	)
}

func TestP8HowManyAsks(t *testing.T) {
	x := looked()
	for _, n := range []int{0, 1, 499, 500} {
		asks := slices.Repeat([]impl.Ask{op(impl.AInto)}, n)
		if got := impl.Look(x, asks); len(got) != n {
			t.Errorf("%d asks have %d answers", n, len(got))
		}
	}
	for _, n := range []int{501, 5000} {
		for _, a := range []impl.Ask{{}, op(impl.AInto)} {
			if got := impl.Look(x, slices.Repeat([]impl.Ask{a}, n)); len(got) != 0 {
				t.Errorf("%d asks have %d answers, want none", n, len(got))
			}
		}
	}
	if got := impl.Look(x, nil); len(got) != 0 {
		t.Errorf("no asks have the answers %v", got)
	}
}

// unsound answers traces with a fault of each code.
func unsound() []impl.Trace {
	first := []impl.Moment{line(0, 0, 1)}
	return []impl.Trace{
		{},
		{Moments: first},
		trace(slices.Repeat(first, 3001)...),
		trace(line(0, 0, 1), line(0, 0, 0)),
		trace(line(0, 0, 1), line(1, 0, 1)),
		trace(line(0, 0, 1), back(0, 0)),
		trace(slices.Repeat([]impl.Moment{call(0, 1)}, 200)...),
	}
}

func TestP8NotSound(t *testing.T) {
	for i, x := range unsound() {
		for _, asks := range [][]impl.Ask{nil, {{}}, {op(impl.AVars), op(impl.AInto)}, make([]impl.Ask, 501)} {
			if got := impl.Look(x, asks); len(got) != 0 {
				t.Errorf("trace %d: %d asks have the answers %v, want none", i, len(asks), got)
			}
		}
	}
}

func TestP8NoMoments(t *testing.T) {
	wantTold(t, trace(),
		asked{op(impl.AVars), at(-1)},
		asked{valueAsk("x"), code(-1, 3)},
		asked{stopAsk(throwStop()), num(-1, 0)},
		asked{opN(impl.ACount, 0), num(-1, 0)},
		asked{op(impl.ABack), at(-1)},
		asked{op(impl.AGo), at(0)},
		asked{op(impl.AVars), at(0)},
		asked{valueAsk("x"), code(0, 3)},
		asked{opN(impl.ACount, 0), num(0, 0)},
		asked{opN(impl.AWhere, 0), stack(0, 0, impl.Frame{From: -1})},
		asked{opN(impl.ATo, 1), code(0, 4)},
		asked{op(impl.AInto), at(0)},
		asked{op(impl.AOver), at(0)},
		asked{op(impl.AOut), at(0)},
		asked{op(impl.ABack), at(-1)},
		asked{opN(impl.ATo, 0), at(0)},
		asked{opN(impl.ATo, -1), at(-1)},
	)
}

// TestP8StopsAreNumbered in the order in which they come, whatever they are and wherever they are set.
func TestP8StopsAreNumbered(t *testing.T) {
	wantTold(t, looked(),
		asked{stopAsk(throwStop()), num(-1, 0)},
		asked{stopAsk(watch(1, "x")), num(-1, 1)},
		asked{opN(impl.ATo, 7), at(7)},
		asked{stopAsk(throwStop()), num(7, 2)},
		asked{stopAsk(callStop(299)), num(7, 3)},
		asked{stopAsk(lineStop(0, 100000)), num(7, 4)},
		asked{op(impl.AUndo), at(-1)},
		asked{stopAsk(lineStop(1, 10)), num(-1, 5)},
		asked{op(impl.AGo), at(1)},
		asked{op(impl.AGo), at(2)},
	)
}

func TestP8AsManyStopsAsThereMayBe(t *testing.T) {
	var list []asked
	for n := range 50 {
		list = append(list, asked{stopAsk(callStop(1)), num(-1, n)})
	}
	list = append(list,
		asked{stopAsk(throwStop()), code(-1, 2)},
		asked{stopAsk(callStop(1)), code(-1, 2)},
		asked{stopAsk(impl.Stop{}), code(-1, 1)}, // 1 stands first
		asked{opN(impl.ACount, 49), num(-1, 0)},
		asked{opN(impl.ACount, 50), code(-1, 1)},
		asked{op(impl.AGo), at(1)},
		asked{op(impl.AGo), at(12)}, // the throw is no stop
		asked{opN(impl.AClear, 49), at(12)},
		asked{opN(impl.AClear, 49), code(12, 2)},
		asked{stopAsk(throwStop()), num(12, 49)},
		asked{stopAsk(throwStop()), code(12, 2)},
		asked{op(impl.ABack), at(8)},
		asked{op(impl.ABack), at(1)},
		asked{opN(impl.AClear, 0), at(1)},
		asked{opN(impl.AClear, 0), at(1)},
		asked{stopAsk(throwStop()), num(1, 48)},
		asked{stopAsk(throwStop()), num(1, 49)},
		asked{stopAsk(throwStop()), code(1, 2)},
	)
	wantTold(t, looked(), list...)
}

// TestP8ClearedStops: those behind the cleared one get numbers one less, those ahead of it keep theirs.
func TestP8ClearedStops(t *testing.T) {
	x := looked()
	// at the end these hold 1, 2, 4 and 0 times
	stops := []impl.Stop{throwStop(), watch(1, "x"), lineStop(0, 1), callStop(0)}
	x.Moments = append(x.Moments, line(0, 0, 1), line(0, 0, 1), line(0, 0, 1))
	holds := []int{1, 2, 4, 0}
	for cleared := range stops {
		list := []asked{{opN(impl.ATo, 15), at(15)}}
		for n, s := range stops {
			list = append(list, asked{stopAsk(s), num(15, n)})
		}
		for n := range stops {
			list = append(list, asked{opN(impl.ACount, n), num(15, holds[n])})
		}
		list = append(list, asked{opN(impl.AClear, cleared), at(15)})
		rest := slices.Delete(slices.Clone(holds), cleared, cleared+1)
		for n, held := range rest {
			list = append(list, asked{opN(impl.ACount, n), num(15, held)})
		}
		list = append(list,
			asked{opN(impl.ACount, 3), code(15, 2)},
			asked{opN(impl.AClear, 3), code(15, 2)},
			asked{stopAsk(lineStop(1, 10)), num(15, 3)},
			asked{opN(impl.ACount, 3), num(15, 1)},
			asked{opN(impl.AClear, 1), at(15)},
			asked{opN(impl.ACount, 0), num(15, rest[0])},
			asked{opN(impl.ACount, 1), num(15, rest[2])},
			asked{opN(impl.ACount, 2), num(15, 1)},
			asked{opN(impl.ACount, 3), code(15, 2)},
			asked{opN(impl.AClear, 2), at(15)},
			asked{opN(impl.AClear, 2), code(15, 2)},
			asked{opN(impl.AClear, 0), at(15)},
			asked{opN(impl.AClear, 0), at(15)},
			asked{opN(impl.AClear, 0), code(15, 2)},
			asked{stopAsk(throwStop()), num(15, 0)},
		)
		wantTold(t, x, list...)
	}
}

// TestP8ClearedStopsHoldNoMore, and those that are left still do.
func TestP8ClearedStopsHoldNoMore(t *testing.T) {
	wantTold(t, looked(),
		asked{stopAsk(callStop(1)), num(-1, 0)},
		asked{stopAsk(lineStop(1, 10)), num(-1, 1)},
		asked{stopAsk(throwStop()), num(-1, 2)},
		asked{opN(impl.AClear, 1), at(-1)},
		asked{op(impl.AGo), at(1)},
		asked{op(impl.AGo), at(8)},
		asked{op(impl.AGo), at(12)},
		asked{opN(impl.AClear, 1), at(12)},
		asked{op(impl.ABack), at(1)},
		asked{opN(impl.AClear, 0), at(1)},
		asked{op(impl.AGo), at(12)},
		asked{op(impl.ABack), at(-1)},
	)
}

func TestP8GoAndBack(t *testing.T) {
	wantTold(t, looked(),
		asked{op(impl.ABack), at(-1)},
		asked{op(impl.AGo), at(12)}, // without stops
		asked{op(impl.AGo), at(12)},
		asked{op(impl.ABack), at(-1)},
		asked{stopAsk(watch(1, "x")), num(-1, 0)},
		asked{stopAsk(throwStop()), num(-1, 1)},
		asked{stopAsk(lineStop(0, 1)), num(-1, 2)},
		asked{stopAsk(lineStop(0, 2)), num(-1, 3)},
		asked{op(impl.AGo), at(0)},
		asked{op(impl.AGo), at(1)},
		asked{op(impl.AGo), at(7)},
		asked{op(impl.AGo), at(8)},
		asked{op(impl.AGo), at(11)},
		asked{op(impl.AGo), at(12)},
		asked{op(impl.AGo), at(12)},
		asked{op(impl.ABack), at(11)},
		asked{op(impl.ABack), at(8)},
		asked{op(impl.ABack), at(7)},
		asked{op(impl.ABack), at(1)},
		asked{op(impl.ABack), at(0)},
		asked{op(impl.ABack), at(-1)},
		asked{op(impl.ABack), at(-1)},
		asked{opN(impl.ATo, 5), at(5)},
		asked{op(impl.AGo), at(7)},
		asked{opN(impl.ATo, 5), at(5)},
		asked{op(impl.ABack), at(1)},
	)
}

// TestP8Steps goes from every place by each step, and back.
func TestP8Steps(t *testing.T) {
	x := looked()
	for k := -1; k <= len(x.Moments); k++ {
		wantTold(t, x,
			asked{opN(impl.ATo, k), at(k)},
			asked{op(impl.AInto), at(impl.Into(x, k))},
			asked{op(impl.AUndo), at(k)},
			asked{op(impl.AOver), at(impl.Over(x, k))},
			asked{op(impl.AUndo), at(k)},
			asked{op(impl.AOut), at(impl.Out(x, k))},
			asked{op(impl.AUndo), at(k)},
		)
	}
	wantTold(t, x,
		asked{op(impl.AInto), at(0)},
		asked{op(impl.AInto), at(2)},
		asked{op(impl.AInto), at(7)},
		asked{op(impl.AOut), at(9)},
		asked{op(impl.AInto), at(11)},
		asked{op(impl.AInto), at(12)},
		asked{op(impl.AInto), at(12)},
		asked{opN(impl.ATo, 0), at(0)},
		asked{op(impl.AOver), at(11)},
		asked{opN(impl.ATo, 4), at(4)},
		asked{op(impl.AOver), at(5)},
		asked{op(impl.AOver), at(12)},
		asked{opN(impl.ATo, 0), at(0)},
		asked{op(impl.AOut), at(12)},
	)
}

func TestP8To(t *testing.T) {
	x := looked()
	wantTold(t, x,
		asked{opN(impl.ATo, 12), at(12)},
		asked{opN(impl.ATo, 13), code(12, 4)},
		asked{opN(impl.ATo, 3000), code(12, 4)},
		asked{opN(impl.ATo, 3001), code(12, 1)},
		asked{opN(impl.ATo, math.MaxInt), code(12, 1)},
		asked{opN(impl.ATo, 0), at(0)},
		asked{opN(impl.ATo, -1), at(-1)},
		asked{opN(impl.ATo, 5), at(5)},
		asked{opN(impl.ATo, -2), code(5, 1)},
		asked{opN(impl.ATo, math.MinInt), code(5, 1)},
		asked{opN(impl.ATo, 5), at(5)},
	)
	long := trace(slices.Repeat([]impl.Moment{with(line(0, 0, 1), "x", "1")}, 3000)...)
	wantTold(t, long,
		asked{opN(impl.ATo, 3000), at(3000)},
		asked{op(impl.AVars), at(3000)},
		asked{opN(impl.ATo, 3001), code(3000, 1)},
		asked{opN(impl.ATo, 2999), at(2999)},
		asked{valueAsk("x"), text(2999, "1")},
		asked{stopAsk(lineStop(0, 1)), num(2999, 0)},
		asked{opN(impl.ACount, 0), num(2999, 3000)},
	)
}

// TestP8UndoOneByOne goes back through moves of every kind, with all else in between left as it is.
func TestP8UndoOneByOne(t *testing.T) {
	wantTold(t, looked(),
		asked{op(impl.AUndo), code(-1, 4)},
		asked{stopAsk(throwStop()), num(-1, 0)},
		asked{op(impl.AUndo), code(-1, 4)}, // a stop is no move
		asked{op(impl.AInto), at(0)},
		asked{opN(impl.AWhere, 0), stack(0, 0, impl.Frame{Line: 1, From: -1})},
		asked{op(impl.AGo), at(8)},
		asked{stopAsk(lineStop(1, 10)), num(8, 1)},
		asked{op(impl.ABack), at(2)},
		asked{op(impl.AVars), vars(2, impl.Var{Name: "x", Text: "1"}, impl.Var{Name: "y"})},
		asked{op(impl.AOver), at(7)},
		asked{valueAsk("x"), text(7, "2")},
		asked{op(impl.AOut), at(9)},
		asked{opN(impl.AClear, 0), at(9)},
		asked{opN(impl.ATo, 4), at(4)},
		asked{opN(impl.ACount, 0), num(4, 1)},
		asked{op(impl.AUndo), at(9)},
		asked{op(impl.AUndo), at(7)},
		asked{op(impl.AUndo), at(2)},
		asked{op(impl.AUndo), at(8)},
		asked{op(impl.AUndo), at(0)},
		asked{op(impl.AUndo), at(-1)},
		asked{op(impl.AUndo), code(-1, 4)},
		asked{op(impl.AUndo), code(-1, 4)},
		asked{op(impl.AGo), at(2)}, // the stops are as they were left
		asked{op(impl.AUndo), at(-1)},
	)
}

// TestP8UndoAndGoOn: an undoing is not undone, and moves behind it are undone ahead of the older ones.
func TestP8UndoAndGoOn(t *testing.T) {
	wantTold(t, looked(),
		asked{opN(impl.ATo, 3), at(3)},
		asked{opN(impl.ATo, 6), at(6)},
		asked{op(impl.AUndo), at(3)},
		asked{opN(impl.ATo, 9), at(9)},
		asked{opN(impl.ATo, 10), at(10)},
		asked{op(impl.AUndo), at(9)},
		asked{op(impl.AUndo), at(3)},
		asked{opN(impl.ATo, 1), at(1)},
		asked{op(impl.AUndo), at(3)},
		asked{op(impl.AUndo), at(-1)},
		asked{op(impl.AUndo), code(-1, 4)},
		asked{opN(impl.ATo, 2), at(2)},
		asked{op(impl.AUndo), at(-1)},
		asked{op(impl.AUndo), code(-1, 4)},
	)
}

// TestP8AMoveThatStays where it was is a move, of whichever kind.
func TestP8AMoveThatStays(t *testing.T) {
	wantTold(t, looked(),
		asked{op(impl.ABack), at(-1)},
		asked{opN(impl.ATo, -1), at(-1)},
		asked{op(impl.AUndo), at(-1)},
		asked{op(impl.AUndo), at(-1)},
		asked{op(impl.AUndo), code(-1, 4)},
		asked{opN(impl.ATo, 12), at(12)},
		asked{op(impl.AGo), at(12)},
		asked{op(impl.AInto), at(12)},
		asked{op(impl.AOver), at(12)},
		asked{op(impl.AOut), at(12)},
		asked{opN(impl.ATo, 12), at(12)},
		asked{op(impl.AUndo), at(12)},
		asked{op(impl.AUndo), at(12)},
		asked{op(impl.AUndo), at(12)},
		asked{op(impl.AUndo), at(12)},
		asked{op(impl.AUndo), at(12)},
		asked{op(impl.AUndo), at(-1)},
		asked{op(impl.AUndo), code(-1, 4)},
	)
}

func TestP8AsManyMovesAsThereMayBe(t *testing.T) {
	var list []asked
	for i := range 250 {
		list = append(list, asked{opN(impl.ATo, i%14-1), at(i%14 - 1)})
	}
	for i := range 249 {
		k := (248-i)%14 - 1
		list = append(list, asked{op(impl.AUndo), at(k)})
	}
	list = append(list, asked{op(impl.AUndo), at(-1)})
	wantTold(t, looked(), list...)
}

func TestP8Where(t *testing.T) {
	outer := func(n int) impl.Frame { return impl.Frame{Line: n, From: -1} }
	f := func(n int) impl.Frame { return impl.Frame{Fn: 1, Line: n, From: 1} }
	g := func(n int) impl.Frame { return impl.Frame{Fn: 2, Line: n, From: 4} }
	wantTold(t, looked(),
		asked{opN(impl.AWhere, 0), stack(-1, 0, outer(0))},
		asked{opN(impl.AWhere, 1), stack(-1, 0)},
		asked{opN(impl.ATo, 2), at(2)},
		asked{opN(impl.AWhere, 0), stack(2, 0, f(10), outer(1))},
		asked{opN(impl.AWhere, 1), stack(2, 0)},
		asked{opN(impl.ATo, 3), at(3)},
		asked{opN(impl.AWhere, 0), stack(3, 1, f(10), outer(1))},
		asked{opN(impl.AWhere, 1), stack(3, 1)},
		asked{opN(impl.ATo, 5), at(5)},
		asked{opN(impl.AWhere, 0), stack(5, 1, f(10), outer(1))},
		asked{opN(impl.AWhere, 1), stack(5, 1, g(20))},
		asked{opN(impl.AWhere, 2), stack(5, 1)},
		asked{opN(impl.AWhere, 100), stack(5, 1)},
		asked{opN(impl.AWhere, 101), code(5, 1)},
		asked{opN(impl.AWhere, -1), code(5, 1)},
		asked{opN(impl.ATo, 12), at(12)},
		asked{opN(impl.AWhere, 0), stack(12, 0, outer(2))},
		asked{opN(impl.AWhere, 1), stack(12, 0, g(20))},
	)
	last := trace(turn(100), call(100, 2))
	wantTold(t, last,
		asked{opN(impl.ATo, 1), at(1)},
		asked{opN(impl.AWhere, 100), stack(1, 100, impl.Frame{Fn: 2, From: 1})},
	)
}

// TestP8Vars: the variables of the moment itself, all of them in order; ahead of all moments and behind them there are none.
func TestP8Vars(t *testing.T) {
	x := looked()
	list := []asked{{op(impl.AVars), at(-1)}}
	for k, m := range x.Moments {
		list = append(list, asked{opN(impl.ATo, k), at(k)}, asked{op(impl.AVars), vars(k, m.Vars...)})
	}
	list = append(list,
		asked{opN(impl.ATo, 12), at(12)},
		asked{op(impl.AVars), at(12)},
		asked{opN(impl.ATo, 7), at(7)},
		asked{op(impl.AVars), vars(7, impl.Var{Name: "x", Text: "9"}, impl.Var{Name: "y", Text: "3"}, impl.Var{Name: "x", Text: "2"})},
		asked{opN(impl.ATo, 3), at(3)},
		asked{op(impl.AVars), at(3)},
	)
	wantTold(t, x, list...)
}

func TestP8Value(t *testing.T) {
	long := strings.Repeat("n", 40)
	x := looked()
	x.Moments[7] = with(x.Moments[7], long, "long")
	wantTold(t, x,
		asked{valueAsk("n"), code(-1, 3)},
		asked{opN(impl.ATo, 2), at(2)},
		asked{valueAsk("x"), text(2, "1")},
		asked{valueAsk("y"), at(2)}, // it is there, with an empty text
		asked{valueAsk("n"), code(2, 3)},
		asked{valueAsk("X"), code(2, 3)},
		asked{valueAsk("xy"), code(2, 3)},
		asked{opN(impl.ATo, 7), at(7)},
		asked{valueAsk("x"), text(7, "2")}, // the last one of that name
		asked{valueAsk("y"), text(7, "3")},
		asked{valueAsk(long), text(7, "long")},
		asked{valueAsk(long[:39]), code(7, 3)},
		asked{valueAsk(long + "n"), code(7, 1)},
		asked{valueAsk(""), code(7, 1)},
		asked{opN(impl.ATo, 6), at(6)},
		asked{valueAsk("x"), code(6, 3)}, // moments before it had it
		asked{opN(impl.ATo, 11), at(11)},
		asked{valueAsk("n"), text(11, "6")},
		asked{opN(impl.ATo, 12), at(12)},
		asked{valueAsk("n"), code(12, 3)},
	)
}

// TestP8Count counts the moment of the place itself, and nothing behind it.
func TestP8Count(t *testing.T) {
	x := looked()
	stops := []impl.Stop{watch(1, "x"), throwStop(), lineStop(0, 2), callStop(2), callStop(0)}
	var list []asked
	for n, s := range stops {
		list = append(list, asked{stopAsk(s), num(-1, n)})
	}
	for k := -1; k <= len(x.Moments); k++ {
		list = append(list, asked{opN(impl.ATo, k), at(k)})
		for n, s := range stops {
			held := 0
			for _, m := range plainHits(x, s) {
				if m <= k {
					held++
				}
			}
			list = append(list, asked{opN(impl.ACount, n), num(k, held)})
		}
		list = append(list, asked{opN(impl.ACount, len(stops)), code(k, 2)})
	}
	list = append(list,
		asked{opN(impl.ACount, 0), num(12, 2)},
		asked{opN(impl.ACount, 1), num(12, 1)},
		asked{opN(impl.ACount, 2), num(12, 1)},
		asked{opN(impl.ATo, 7), at(7)},
		asked{opN(impl.ACount, 0), num(7, 2)},
		asked{opN(impl.ATo, 6), at(6)},
		asked{opN(impl.ACount, 0), num(6, 1)},
		asked{opN(impl.ACount, 49), code(6, 2)},
		asked{opN(impl.ACount, 50), code(6, 1)},
		asked{opN(impl.ACount, -1), code(6, 1)},
	)
	wantTold(t, x, list...)
}
