package tests

import (
	"math"
	"reflect"
	"slices"
	"strings"
	"testing"

	"loop.example/lens/impl"
)

func lineStop(fn, n int) impl.Stop { return impl.Stop{Kind: impl.SLine, Fn: fn, Line: n} }

func callStop(fn int) impl.Stop { return impl.Stop{Kind: impl.SCall, Fn: fn} }

func watch(fn int, name string) impl.Stop {
	return impl.Stop{Kind: impl.SWatch, Fn: fn, Name: name}
}

func throwStop() impl.Stop { return impl.Stop{Kind: impl.SThrow} }

// wantHits holds Hits to a list, and StopsAt to it at every moment and beyond both ends.
func wantHits(t *testing.T, x impl.Trace, s impl.Stop, want ...int) {
	t.Helper()
	if got := impl.Hits(x, s); !slices.Equal(got, want) {
		t.Errorf("Hits of %v: %v, want %v", s, got, want)
	}
	for k := -2; k <= len(x.Moments)+1; k++ {
		if got := impl.StopsAt(x, s, k); got != slices.Contains(want, k) {
			t.Errorf("StopsAt of %v at moment %d: %v", s, k, got)
		}
	}
}

func wantNext(t *testing.T, x impl.Trace, stops []impl.Stop, k, want int) {
	t.Helper()
	if got := impl.Next(x, stops, k); got != want {
		t.Errorf("Next of %v from place %d: %d, want %d", stops, k, got, want)
	}
}

func wantLast(t *testing.T, x impl.Trace, stops []impl.Stop, k, want int) {
	t.Helper()
	if got := impl.Last(x, stops, k); got != want {
		t.Errorf("Last of %v from place %d: %d, want %d", stops, k, got, want)
	}
}

// wantWays holds Next and Last to the moments at which one of the stops holds, from every place.
func wantWays(t *testing.T, x impl.Trace, stops []impl.Stop, hits ...int) {
	t.Helper()
	for k := -1; k <= len(x.Moments); k++ {
		next, last := len(x.Moments), -1
		for _, m := range hits {
			if m > k {
				next = min(next, m)
			}
			if m < k {
				last = max(last, m)
			}
		}
		wantNext(t, x, stops, k, next)
		wantLast(t, x, stops, k, last)
	}
}

func TestP1StopOk(t *testing.T) {
	name := func(n int) string { return strings.Repeat("n", n) }
	for _, c := range []struct {
		what string
		s    impl.Stop
		want bool
	}{
		{"the zero value", impl.Stop{}, false},
		{"Kind 0", impl.Stop{Kind: 0, Fn: 1, Line: 1}, false},
		{"Kind -1", impl.Stop{Kind: -1}, false},
		{"Kind 5", impl.Stop{Kind: 5}, false},
		{"Kind 5 with a Line", impl.Stop{Kind: 5, Fn: 1, Line: 1}, false},
		{"the least Kind", impl.Stop{Kind: math.MinInt}, false},
		{"the greatest Kind", impl.Stop{Kind: math.MaxInt}, false},

		{"Line 1", lineStop(0, 1), true},
		{"MaxLine", lineStop(0, 100000), true},
		{"Line 0", lineStop(0, 0), false},
		{"Line -1", lineStop(0, -1), false},
		{"Line MaxLine + 1", lineStop(0, 100001), false},
		{"the greatest Line", lineStop(0, math.MaxInt), false},
		{"a line of the last Fn", lineStop(299, 1), true},
		{"a line of Fn 300", lineStop(300, 1), false},
		{"a line of Fn -1", lineStop(-1, 1), false},
		{"a line with a Name", impl.Stop{Kind: impl.SLine, Line: 1, Name: "n"}, false},

		{"calls of fn 0", callStop(0), true},
		{"calls of the last Fn", callStop(299), true},
		{"calls of Fn 300", callStop(300), false},
		{"calls of Fn -1", callStop(-1), false},
		{"calls with a Line", impl.Stop{Kind: impl.SCall, Line: 1}, false},
		{"calls with a Line below 0", impl.Stop{Kind: impl.SCall, Line: -1}, false},
		{"calls with a Name", impl.Stop{Kind: impl.SCall, Name: "n"}, false},

		{"a Name of 1 byte", watch(0, "n"), true},
		{"a Name of MaxName bytes", watch(0, name(40)), true},
		{"an empty Name", watch(0, ""), false},
		{"a Name of MaxName + 1 bytes", watch(0, name(41)), false},
		{"bytes of a Name, not letters", watch(0, strings.Repeat("ä", 21)), false},
		{"a Name that is one byte 0", watch(0, "\x00"), true},
		{"a variable of the last Fn", watch(299, "n"), true},
		{"a variable of Fn 300", watch(300, "n"), false},
		{"a variable of Fn -1", watch(-1, "n"), false},
		{"a variable with a Line", impl.Stop{Kind: impl.SWatch, Line: 1, Name: "n"}, false},
		{"a variable with a Line below 0", impl.Stop{Kind: impl.SWatch, Line: -1, Name: "n"}, false},

		{"all that is thrown", throwStop(), true},
		{"thrown with a Fn", impl.Stop{Kind: impl.SThrow, Fn: 1}, false},
		{"thrown with a Fn below 0", impl.Stop{Kind: impl.SThrow, Fn: -1}, false},
		{"thrown with a Fn that there is not", impl.Stop{Kind: impl.SThrow, Fn: 300}, false},
		{"thrown with a Line", impl.Stop{Kind: impl.SThrow, Line: 1}, false},
		{"thrown with a Name", impl.Stop{Kind: impl.SThrow, Name: "n"}, false},
	} {
		if got := impl.StopOk(c.s); got != c.want {
			t.Errorf("%s: StopOk answers %v, want %v", c.what, got, c.want)
		}
	}
}

// stopped has lines of one number in two fns, and moments of all kinds that name a Line and Vars.
func stopped() impl.Trace {
	said := func(kind, fn int) impl.Moment {
		return with(impl.Moment{Kind: kind, Fn: fn, Line: 3}, "x", "1")
	}
	return trace(
		line(0, 0, 3), // 0
		impl.Moment{Kind: impl.MCall, Fn: 1, Line: 3},  // 1
		with(line(0, 1, 3), "x", "1"),                  // 2
		line(0, 1, 4),                                  // 3
		said(impl.MThrow, 1),                           // 4
		said(impl.MCatch, 1),                           // 5
		said(impl.MPrint, 1),                           // 6
		with(line(0, 1, 3), "x", "2"),                  // 7
		call(0, 2),                                     // 8
		line(0, 2, 3),                                  // 9
		said(impl.MThrow, 2),                           // 10
		impl.Moment{Kind: impl.MBack, Fn: 2, Line: 3},  // 11
		call(0, 1),                                     // 12
		impl.Moment{Kind: impl.MTurn, Task: 1, Fn: 1},  // 13
		call(1, 1),                                     // 14
		line(1, 1, 3),                                  // 15
		impl.Moment{Kind: impl.MThrow, Task: 1, Fn: 1}, // 16
	)
}

func TestP4EachKindAtEveryMoment(t *testing.T) {
	x := stopped()
	wantFault(t, "stopped", x, 0, 0)
	wantHits(t, x, lineStop(0, 3), 0)
	wantHits(t, x, lineStop(1, 3), 2, 7, 15)
	wantHits(t, x, lineStop(1, 4), 3)
	wantHits(t, x, lineStop(2, 3), 9)
	wantHits(t, x, lineStop(2, 4))
	wantHits(t, x, lineStop(0, 100000))
	wantHits(t, x, callStop(0))
	wantHits(t, x, callStop(1), 1, 12, 14)
	wantHits(t, x, callStop(2), 8)
	wantHits(t, x, watch(1, "x"), 2, 7)
	wantHits(t, x, watch(2, "x"), 10)
	wantHits(t, x, watch(0, "x"))
	wantHits(t, x, watch(1, "y"))
	wantHits(t, x, throwStop(), 4, 10, 16)
}

// TestP4FnsThatTheTraceHasNot: such a stop is one, and holds nowhere.
func TestP4FnsThatTheTraceHasNot(t *testing.T) {
	x := stopped()
	for _, s := range []impl.Stop{lineStop(3, 3), callStop(299), watch(3, "x")} {
		wantHits(t, x, s)
		wantWays(t, x, []impl.Stop{s})
	}
}

func TestP4CallsOfTheText(t *testing.T) {
	x := trace(call(0, 0), line(0, 0, 1), call(0, 0))
	wantHits(t, x, callStop(0), 0, 2)
	wantHits(t, x, lineStop(0, 1), 1)
}

func TestP4StopsThatAreNone(t *testing.T) {
	x := stopped()
	ok := throwStop()
	for _, s := range []impl.Stop{
		{},
		{Kind: 5},
		{Kind: -1},
		{Kind: impl.SThrow, Fn: 1},
		{Kind: impl.SLine, Fn: 1, Line: 3, Name: "x"},
		{Kind: impl.SCall, Fn: 1, Line: 3},
		{Kind: impl.SWatch, Fn: 1, Line: 3, Name: "x"},
		lineStop(-1, 3),
		callStop(300),
		watch(1, ""),
	} {
		wantHits(t, x, s)
		for _, stops := range [][]impl.Stop{{s}, {s, ok}, {ok, s}, {ok, s, ok}} {
			for k := -1; k <= len(x.Moments); k++ {
				wantNext(t, x, stops, k, -2)
				wantLast(t, x, stops, k, -2)
			}
		}
	}
}

// TestP4NotSound: nothing holds even ahead of the fault.
func TestP4NotSound(t *testing.T) {
	first := []impl.Moment{call(0, 1), with(line(0, 1, 3), "x", "1"), say(impl.MThrow, 0, 1)}
	stops := []impl.Stop{callStop(1), lineStop(1, 3), watch(1, "x"), throwStop()}
	sound := trace(first...)
	for i, s := range stops {
		wantHits(t, sound, s, []int{0, 1, 1, 2}[i])
	}
	for _, x := range []impl.Trace{
		{},
		{Moments: first},
		trace(append(slices.Clone(first), line(0, 1, 0))...),
		trace(append(slices.Clone(first), line(1, 1, 3))...),
		trace(append(slices.Clone(first), line(0, 0, 3))...),
		trace(append(slices.Clone(first), slices.Repeat([]impl.Moment{call(0, 1)}, 200)...)...),
		trace(append(slices.Clone(first), slices.Repeat([]impl.Moment{line(0, 1, 3)}, 2998)...)...),
	} {
		for _, s := range stops {
			wantHits(t, x, s)
		}
		for _, k := range []int{-1, 0, len(x.Moments)} {
			wantNext(t, x, stops, k, -2)
			wantLast(t, x, stops, k, -2)
			wantNext(t, x, nil, k, -2)
			wantLast(t, x, nil, k, -2)
		}
	}
}

func TestP4PlacesThatThereAreNot(t *testing.T) {
	x := stopped()
	n := len(x.Moments)
	for _, k := range []int{-2, n + 1, math.MinInt, math.MaxInt} {
		for _, stops := range [][]impl.Stop{nil, {throwStop()}, {callStop(1), lineStop(1, 3)}} {
			wantNext(t, x, stops, k, -2)
			wantLast(t, x, stops, k, -2)
		}
	}
	for _, k := range []int{-1, n, math.MinInt, math.MaxInt} {
		for _, s := range []impl.Stop{throwStop(), callStop(1), lineStop(1, 3), watch(1, "x")} {
			if impl.StopsAt(x, s, k) {
				t.Errorf("StopsAt of %v holds at moment %d, which there is not", s, k)
			}
		}
	}
}

func TestP4NextAndLastFromEveryPlace(t *testing.T) {
	x := stopped()
	wantWays(t, x, nil)
	wantWays(t, x, []impl.Stop{})
	wantWays(t, x, []impl.Stop{throwStop()}, 4, 10, 16)
	wantWays(t, x, []impl.Stop{lineStop(0, 3)}, 0)
	wantWays(t, x, []impl.Stop{watch(1, "x")}, 2, 7)
	wantWays(t, x, []impl.Stop{throwStop(), callStop(1), watch(2, "x")}, 1, 4, 10, 12, 14, 16)
	wantWays(t, x, []impl.Stop{callStop(1), throwStop(), lineStop(0, 3)}, 0, 1, 4, 10, 12, 14, 16)
	// all three hold at moments 2 and 7, two of them in the other order as well
	wantWays(t, x, []impl.Stop{watch(1, "x"), lineStop(1, 3), watch(1, "x")}, 2, 7, 15)
	wantWays(t, x, []impl.Stop{lineStop(1, 3), watch(1, "x")}, 2, 7, 15)
}

func TestP4NoMoments(t *testing.T) {
	x := trace()
	for _, stops := range [][]impl.Stop{nil, {throwStop()}, {watch(0, "x"), lineStop(0, 1)}} {
		for _, k := range []int{-1, 0} {
			wantNext(t, x, stops, k, 0)
			wantLast(t, x, stops, k, -1)
		}
		for _, k := range []int{-2, 1} {
			wantNext(t, x, stops, k, -2)
			wantLast(t, x, stops, k, -2)
		}
	}
	wantHits(t, x, throwStop())
	wantHits(t, x, watch(0, "x"))
}

func TestP4AsManyStopsAsThereMayBe(t *testing.T) {
	x := stopped()
	for _, s := range []impl.Stop{throwStop(), watch(1, "x")} {
		for _, n := range []int{49, 50} {
			wantWays(t, x, slices.Repeat([]impl.Stop{s}, n), impl.Hits(x, s)...)
		}
		for _, n := range []int{51, 500} {
			for k := -1; k <= len(x.Moments); k++ {
				wantNext(t, x, slices.Repeat([]impl.Stop{s}, n), k, -2)
				wantLast(t, x, slices.Repeat([]impl.Stop{s}, n), k, -2)
			}
		}
	}
	// the last of fifty counts as well
	wantWays(t, x, append(slices.Repeat([]impl.Stop{callStop(2)}, 49), throwStop()), 4, 8, 10, 16)
}

func TestP4AnswersAreNewMemory(t *testing.T) {
	x := stopped()
	kept := deepCopy(x)
	stops := []impl.Stop{throwStop(), callStop(1), watch(1, "x"), lineStop(1, 3)}
	keptStops := slices.Clone(stops)
	for _, s := range stops {
		first := impl.Hits(x, s)
		want := slices.Clone(first)
		for i := range first {
			first[i] = 99
		}
		_ = append(first, 98)
		wantHits(t, x, s, want...)
	}
	wantWays(t, x, stops, 1, 2, 4, 7, 10, 12, 14, 15, 16)
	if !reflect.DeepEqual(x, kept) || !slices.Equal(stops, keptStops) {
		t.Error("something was written into an argument")
	}
}
