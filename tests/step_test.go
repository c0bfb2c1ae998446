package tests

import (
	"math"
	"testing"

	"loop.example/lens/impl"
)

// steps is where the four steps lead from one place.
type steps struct{ into, over, out, before int }

func stepsFrom(x impl.Trace, k int) steps {
	return steps{impl.Into(x, k), impl.Over(x, k), impl.Out(x, k), impl.Before(x, k)}
}

func wantSteps(t *testing.T, x impl.Trace, k int, want steps) {
	t.Helper()
	if got := stepsFrom(x, k); got != want {
		t.Errorf("steps (into, over, out, before) from place %d: %v, want %v", k, got, want)
	}
}

// wantEachStep holds the steps from every place, from -1 on, to a list, and those from beyond both ends to -2.
func wantEachStep(t *testing.T, x impl.Trace, want ...steps) {
	t.Helper()
	wantFault(t, "steps", x, 0, 0)
	if len(want) != len(x.Moments)+2 {
		t.Fatalf("%d rows for %d places", len(want), len(x.Moments)+2)
	}
	for i, w := range want {
		wantSteps(t, x, i-1, w)
	}
	wantNoStep(t, x, -2, math.MinInt, len(x.Moments)+1, math.MaxInt)
}

func wantNoStep(t *testing.T, x impl.Trace, ks ...int) {
	t.Helper()
	for _, k := range ks {
		wantSteps(t, x, k, steps{-2, -2, -2, -2})
	}
}

func TestP6OneCall(t *testing.T) {
	wantEachStep(t, trace(
		line(0, 0, 1), // 0
		call(0, 1),    // 1
		line(0, 1, 5), // 2
		line(0, 1, 6), // 3
		back(0, 1),    // 4
		line(0, 0, 2), // 5
	),
		steps{0, 0, 6, -1}, // ahead of all
		steps{2, 5, 6, -1}, // 0
		steps{2, 2, 4, 0},  // 1
		steps{3, 3, 4, 0},  // 2
		steps{5, 5, 4, 2},  // 3
		steps{5, 5, 6, 3},  // 4
		steps{6, 6, 6, 3},  // 5
		steps{6, 6, 6, 5},  // behind all
	)
}

// TestP6CallsOpenedSince: neither their lines nor their leavings are where Over and Out end.
func TestP6CallsOpenedSince(t *testing.T) {
	wantEachStep(t, trace(
		call(0, 1),    // 0
		line(0, 1, 1), // 1
		call(0, 2),    // 2
		line(0, 2, 1), // 3
		call(0, 1),    // 4
		line(0, 1, 2), // 5
		back(0, 1),    // 6
		back(0, 2),    // 7
		line(0, 1, 3), // 8
		call(0, 2),    // 9
		back(0, 2),    // 10
		back(0, 1),    // 11
	),
		steps{1, 12, 12, -1},
		steps{1, 1, 11, -1},  // 0
		steps{3, 8, 11, -1},  // 1
		steps{3, 3, 7, 1},    // 2
		steps{5, 8, 7, 1},    // 3
		steps{5, 5, 6, 3},    // 4
		steps{8, 8, 6, 3},    // 5
		steps{8, 8, 7, 5},    // 6
		steps{8, 8, 11, 5},   // 7
		steps{12, 12, 11, 5}, // 8
		steps{12, 12, 10, 8}, // 9
		steps{12, 12, 11, 8}, // 10
		steps{12, 12, 12, 8}, // 11
		steps{12, 12, 12, 8},
	)
}

// TestP6ACallIsLeftMeanwhile: a call opened in its stead has as many open, and its line is none further in.
func TestP6ACallIsLeftMeanwhile(t *testing.T) {
	wantEachStep(t, trace(
		call(0, 1),    // 0
		line(0, 1, 1), // 1
		back(0, 1),    // 2
		call(0, 2),    // 3
		line(0, 2, 1), // 4
		back(0, 2),    // 5
		line(0, 0, 1), // 6
	),
		steps{1, 6, 7, -1},
		steps{1, 1, 2, -1}, // 0
		steps{4, 4, 2, -1}, // 1
		steps{4, 6, 7, 1},  // 2
		steps{4, 4, 5, 1},  // 3
		steps{6, 6, 5, 1},  // 4
		steps{6, 6, 7, 4},  // 5
		steps{7, 7, 7, 4},  // 6
		steps{7, 7, 7, 6},
	)
}

// TestP6OutEndsAtTheFirstThatLeavesFewer, though it is another call than the one open at k.
func TestP6OutEndsAtTheFirstThatLeavesFewer(t *testing.T) {
	x := trace(call(0, 1), call(0, 1), call(0, 2), back(0, 2), back(0, 1), call(0, 2), back(0, 2), back(0, 1))
	for i, want := range []int{8, 7, 4, 3, 4, 7, 6, 7, 8, 8} {
		if got := impl.Out(x, i-1); got != want {
			t.Errorf("Out from place %d: %d, want %d", i-1, got, want)
		}
	}
}

// TestP6TheTextIsNeverLeft: Out has nowhere to go where only the text's own call is open.
func TestP6TheTextIsNeverLeft(t *testing.T) {
	wantEachStep(t, trace(
		line(0, 0, 1),
		call(0, 0),
		line(0, 0, 1),
		back(0, 0),
	),
		steps{0, 0, 4, -1},
		steps{2, 4, 4, -1},
		steps{2, 2, 3, 0},
		steps{4, 4, 3, 0},
		steps{4, 4, 4, 2},
		steps{4, 4, 4, 2},
	)
}

// TestP6OtherTasksMeanwhile: their lines, and their calls opened and left, count for nothing.
func TestP6OtherTasksMeanwhile(t *testing.T) {
	wantEachStep(t, trace(
		line(0, 0, 1), // 0
		call(0, 1),    // 1
		line(0, 1, 1), // 2
		turn(1),       // 3
		call(1, 2),    // 4
		line(1, 2, 1), // 5
		call(1, 1),    // 6
		line(1, 1, 1), // 7
		turn(0),       // 8
		line(0, 1, 2), // 9
		turn(1),       // 10
		back(1, 1),    // 11
		line(1, 2, 2), // 12
		back(1, 2),    // 13
		turn(0),       // 14
		back(0, 1),    // 15
		line(0, 0, 2), // 16
		turn(1),       // 17
	),
		steps{0, 0, 18, -1},
		steps{2, 16, 18, -1},  // 0
		steps{2, 2, 15, 0},    // 1
		steps{9, 9, 15, 0},    // 2
		steps{5, 18, 18, -1},  // 3: task 1 has no open calls
		steps{5, 5, 13, -1},   // 4
		steps{7, 12, 13, -1},  // 5
		steps{7, 7, 11, 5},    // 6
		steps{12, 12, 11, 5},  // 7
		steps{9, 9, 15, 2},    // 8: task 0 runs again
		steps{16, 16, 15, 2},  // 9
		steps{12, 12, 11, 7},  // 10
		steps{12, 12, 13, 7},  // 11
		steps{18, 18, 13, 7},  // 12
		steps{18, 18, 18, 12}, // 13
		steps{16, 16, 15, 9},  // 14
		steps{16, 16, 18, 9},  // 15
		steps{18, 18, 18, 9},  // 16
		steps{18, 18, 18, 12}, // 17
		steps{18, 18, 18, 12},
	)
}

// TestP6ATurnCountsForTheTaskTurnedTo, be it the last moment, to a task never heard of, or to the one that runs.
func TestP6ATurnCountsForTheTaskTurnedTo(t *testing.T) {
	wantEachStep(t, trace(
		line(0, 0, 1), // 0
		turn(0),       // 1
		line(0, 0, 2), // 2
		turn(100),     // 3
		turn(0),       // 4
	),
		steps{0, 0, 5, -1},
		steps{2, 2, 5, -1},
		steps{2, 2, 5, 0},
		steps{5, 5, 5, 0},
		steps{5, 5, 5, -1},
		steps{5, 5, 5, 2},
		steps{5, 5, 5, 2},
	)
}

// TestP6ATaskWithoutOpenCalls has no line with as few open, and nothing to leave, when calls are opened in it later.
func TestP6ATaskWithoutOpenCalls(t *testing.T) {
	wantEachStep(t, trace(
		turn(1),                // 0
		say(impl.MPrint, 1, 0), // 1
		call(1, 1),             // 2
		line(1, 1, 1),          // 3
		back(1, 1),             // 4
		call(1, 2),             // 5
		line(1, 2, 1),          // 6
		say(impl.MThrow, 1, 2), // 7
		back(1, 2),             // 8
		say(impl.MCatch, 1, 0), // 9
	),
		steps{10, 10, 10, -1},
		steps{3, 10, 10, -1}, // 0
		steps{3, 10, 10, -1}, // 1
		steps{3, 3, 4, -1},   // 2
		steps{6, 6, 4, -1},   // 3
		steps{6, 10, 10, 3},  // 4
		steps{6, 6, 8, 3},    // 5
		steps{10, 10, 8, 3},  // 6
		steps{10, 10, 8, 6},  // 7
		steps{10, 10, 10, 6}, // 8
		steps{10, 10, 10, 6}, // 9
		steps{10, 10, 10, 6},
	)
}

// TestP6OtherKindsOfMoments that name a Line are no lines.
func TestP6OtherKindsOfMoments(t *testing.T) {
	said := func(kind int) impl.Moment { return impl.Moment{Kind: kind, Line: 7} }
	x := trace(
		said(impl.MThrow),
		said(impl.MCatch),
		said(impl.MPrint),
		impl.Moment{Kind: impl.MTurn, Line: 7},
		impl.Moment{Kind: impl.MCall, Fn: 1, Line: 7},
		impl.Moment{Kind: impl.MBack, Fn: 1, Line: 7},
	)
	wantFault(t, "said", x, 0, 0)
	for k := -1; k <= 6; k++ {
		out := 6
		if k == 4 {
			out = 5
		}
		wantSteps(t, x, k, steps{6, 6, out, -1})
	}
}

// nested is a fn that calls itself n times deep, with a line ahead of and behind each call.
func nested(n int) impl.Trace {
	x := trace()
	for range n {
		x.Moments = append(x.Moments, call(0, 1), line(0, 1, 1))
	}
	for range n {
		x.Moments = append(x.Moments, line(0, 1, 2), back(0, 1))
	}
	return x
}

// TestP6AFnThatCallsItself: which call a line is of hangs on how many are open, not on the fn.
func TestP6AFnThatCallsItself(t *testing.T) {
	for _, n := range []int{1, 2, 3, 150, impl.MaxDepth - 1} {
		x := nested(n)
		all := 4 * n
		wantSteps(t, x, -1, steps{1, all, all, -1})
		wantSteps(t, x, all, steps{all, all, all, all - 2})
		for i := range n {
			// moment 2i+1 is the first line of call i, moments all-2-2i and all-1-2i its last line and its leaving
			last, leaving := all-2-2*i, all-1-2*i
			wantSteps(t, x, 2*i+1, steps{2*i + 3 - (i+1)/n, last, leaving, 2*i - 1})
			if i > 0 {
				wantSteps(t, x, leaving, steps{leaving + 1, leaving + 1, leaving + 2, last})
			}
		}
		wantSteps(t, x, all-1, steps{all, all, all, all - 2})
		if t.Failed() {
			t.Fatalf("%d deep", n)
		}
	}
}

func TestP6NoMoments(t *testing.T) {
	wantEachStep(t, trace(), steps{0, 0, 0, -1}, steps{0, 0, 0, -1})
}

func TestP6NotSound(t *testing.T) {
	for _, x := range []impl.Trace{
		{},
		{Moments: []impl.Moment{line(0, 0, 1)}},
		trace(line(0, 0, 1), line(0, 0, 0)),
		trace(line(0, 0, 1), line(1, 0, 1)),
		trace(line(0, 0, 1), back(0, 0)),
		trace(line(0, 0, 1), call(0, 1), line(0, 0, 1)),
	} {
		for k := -2; k <= len(x.Moments)+1; k++ {
			wantNoStep(t, x, k)
		}
	}
}

// TestP6LongTraces: the lines far off at both ends of a trace of MaxMoments, with another task between them.
func TestP6LongTraces(t *testing.T) {
	moments := make([]impl.Moment, impl.MaxMoments)
	for i := range moments {
		moments[i] = say(impl.MPrint, 1, 0)
	}
	end := len(moments) - 1
	moments[0], moments[1] = line(0, 0, 1), turn(1)
	moments[end-1], moments[end] = turn(0), line(0, 0, 2)
	x := trace(moments...)
	wantSteps(t, x, 0, steps{end, end, end + 1, -1})
	wantSteps(t, x, end, steps{end + 1, end + 1, end + 1, 0})
	wantSteps(t, x, end+1, steps{end + 1, end + 1, end + 1, end})
	wantSteps(t, x, 1, steps{end + 1, end + 1, end + 1, -1})
}

// plainPlace is the running task of a place, and how many calls each task has open there.
type plainPlace struct {
	running int
	open    [4]int
}

// plainPlaces answers the places of a trace of at most four tasks, place k at k + 1.
func plainPlaces(x impl.Trace) []plainPlace {
	var list []plainPlace
	w := newModel()
	for k := -1; k <= len(x.Moments); k++ {
		if k >= 0 && k < len(x.Moments) {
			w.follow(k, x.Moments[k])
		}
		p := plainPlace{running: w.running}
		for task := range p.open {
			p.open[task] = len(w.stack(task))
		}
		list = append(list, p)
	}
	return list
}

// plainSteps looks through all moments, whichever way a step goes.
func plainSteps(x impl.Trace, places []plainPlace, k int) steps {
	all := len(x.Moments)
	got := steps{all, all, all, -1}
	task := places[k+1].running
	for m, now := range x.Moments {
		isLine := now.Kind == impl.MLine && now.Task == task
		isBack := now.Kind == impl.MBack && now.Task == task
		more := places[m+1].open[task] - places[k+1].open[task]
		if isLine && m < k {
			got.before = m
		}
		if isLine && m > k {
			got.into = min(got.into, m)
		}
		if isLine && m > k && more <= 0 {
			got.over = min(got.over, m)
		}
		if isBack && m > k && more < 0 {
			got.out = min(got.out, m)
		}
	}
	return got
}

func TestP6AgainstThePlainLook(t *testing.T) {
	for seed := range 150 {
		d := dice(seed)
		x := d.dressed(d.soundTrace(60, 1+d.below(4), 3))
		kept := deepCopy(x)
		places := plainPlaces(x)
		for k := -1; k <= len(x.Moments); k++ {
			wantSteps(t, x, k, plainSteps(x, places, k))
		}
		wantNoStep(t, x, -2, len(x.Moments)+1)
		wantSame(t, x, kept)
		if t.Failed() {
			t.Fatalf("seed %d", seed)
		}
	}
}
