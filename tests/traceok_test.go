package tests

import (
	"math"
	"reflect"
	"slices"
	"strings"
	"testing"

	"loop.example/lens/impl"
)

// busy has every kind of moment, two tasks besides the first, and calls that are left.
func busy() impl.Trace {
	return trace(
		line(0, 0, 1),
		call(0, 1),
		with(line(0, 1, 10), "x", "1"),
		turn(1),
		say(impl.MPrint, 1, 0),
		call(1, 2),
		line(1, 2, 20),
		turn(0),
		call(0, 1),
		say(impl.MThrow, 0, 1),
		back(0, 1),
		say(impl.MCatch, 0, 1),
		with(with(line(0, 1, 11), "x", "2"), "x", ""),
		turn(1),
		line(1, 2, 21),
		back(1, 2),
		say(impl.MThrow, 1, 0),
		turn(100),
		turn(100),
		turn(0),
		back(0, 1),
		line(0, 0, 2),
	)
}

func TestP1SoundTraces(t *testing.T) {
	wantFault(t, "busy", busy(), 0, 0)
	wantFault(t, "no moments", trace(), 0, 0)
	wantFault(t, "one nameless fn", impl.Trace{Fns: []string{""}}, 0, 0)
	wantFault(t, "a turn's Fn need only be there", trace(impl.Moment{Kind: impl.MTurn, Fn: 2, Line: 7, Text: "resume"}), 0, 0)
	wantFault(t, "Line 0 of all but a line", trace(call(0, 1), say(impl.MPrint, 0, 1), back(0, 1), turn(0)), 0, 0)
}

func TestP1Code1(t *testing.T) {
	wantFault(t, "nothing at all", impl.Trace{}, 1, 0)
	wantFault(t, "no Fns", impl.Trace{Moments: []impl.Moment{line(0, 0, 1)}}, 1, 0)
	for _, c := range []struct{ fns, code int }{{1, 0}, {300, 0}, {301, 1}} {
		wantFault(t, "Fns", impl.Trace{Fns: make([]string, c.fns)}, c.code, 0)
	}
	for _, c := range []struct{ moments, code int }{{2999, 0}, {3000, 0}, {3001, 1}} {
		wantFault(t, "Moments", trace(slices.Repeat([]impl.Moment{line(0, 0, 1)}, c.moments)...), c.code, 0)
	}
	for _, c := range []struct{ bytes, code int }{{0, 0}, {40, 0}, {41, 1}} {
		name := strings.Repeat("n", c.bytes)
		wantFault(t, "the first fn's name", impl.Trace{Fns: []string{name, "f"}}, c.code, 0)
		wantFault(t, "the last fn's name", impl.Trace{Fns: []string{"main", "f", name}}, c.code, 0)
	}
	wantFault(t, "bytes of a name, not letters", impl.Trace{Fns: []string{strings.Repeat("ä", 21)}}, 1, 0)
}

// TestP1Code2 sets one field of a moment that follows a sound one.
func TestP1Code2(t *testing.T) {
	for _, c := range []struct {
		what string
		m    impl.Moment
		code int
	}{
		{"Kind 0", impl.Moment{}, 2},
		{"Kind 8", impl.Moment{Kind: 8}, 2},
		{"Kind -1", impl.Moment{Kind: -1}, 2},
		{"the least Kind", impl.Moment{Kind: math.MinInt}, 2},
		{"the greatest Kind", impl.Moment{Kind: math.MaxInt}, 2},
		{"Kind 1", line(0, 0, 1), 0},
		{"Kind 7", turn(0), 0},
		{"Task -1", turn(-1), 2},
		{"Task 100", turn(100), 0},
		{"Task 101", turn(101), 2},
		{"the greatest Task", turn(math.MaxInt), 2},
		{"Fn -1", call(0, -1), 2},
		{"Fn 2", call(0, 2), 0},
		{"Fn 3", call(0, 3), 2},
		{"a turn's Fn 3", impl.Moment{Kind: impl.MTurn, Fn: 3}, 2},
		{"Line -1", impl.Moment{Kind: impl.MPrint, Line: -1}, 2},
		{"Line 0", line(0, 0, 0), 2},
		{"Line 1", line(0, 0, 1), 0},
		{"Line 100000", line(0, 0, 100000), 0},
		{"Line 100001", line(0, 0, 100001), 2},
		{"a turn's Line 100001", impl.Moment{Kind: impl.MTurn, Line: 100001}, 2},
	} {
		moment := 0
		if c.code != 0 {
			moment = 1
		}
		wantFault(t, c.what, trace(line(0, 0, 1), c.m), c.code, moment)
	}
}

func TestP1Code2TextsAndVars(t *testing.T) {
	full, over := strings.Repeat("t", 4000), strings.Repeat("t", 4001)
	for _, c := range []struct {
		what string
		m    impl.Moment
		code int
	}{
		{"a text of 4000", impl.Moment{Kind: impl.MPrint, Text: full}, 0},
		{"a text of 4001", impl.Moment{Kind: impl.MPrint, Text: over}, 2},
		{"a line's text of 4001", impl.Moment{Kind: impl.MLine, Line: 1, Text: over}, 2},
		{"a variable's text of 4000", with(turn(0), "x", full), 0},
		{"a variable's text of 4001", with(turn(0), "x", over), 2},
		{"the last variable's text of 4001", with(with(turn(0), "x", ""), "y", over), 2},
		{"a nameless variable", with(turn(0), "", "1"), 2},
		{"the last variable nameless", with(with(turn(0), "x", "1"), "", "1"), 2},
		{"a variable's name of 1", with(turn(0), "x", "1"), 0},
		{"a variable's name of 40", with(turn(0), strings.Repeat("n", 40), "1"), 0},
		{"a variable's name of 41", with(turn(0), strings.Repeat("n", 41), "1"), 2},
		{"200 variables", impl.Moment{Kind: impl.MTurn, Vars: slices.Repeat([]impl.Var{{Name: "x"}}, 200)}, 0},
		{"201 variables", impl.Moment{Kind: impl.MTurn, Vars: slices.Repeat([]impl.Var{{Name: "x"}}, 201)}, 2},
	} {
		wantFault(t, c.what, trace(c.m), c.code, 0)
	}
}

func TestP1Code3(t *testing.T) {
	for kind := impl.MLine; kind < impl.MTurn; kind++ {
		wantFault(t, "task 1 ahead of its turn", trace(turn(0), impl.Moment{Kind: kind, Task: 1, Line: 1}), 3, 1)
		wantFault(t, "task 0 behind the turn of 1", trace(turn(1), call(1, 1), impl.Moment{Kind: kind, Fn: 1, Line: 1}), 3, 2)
	}
}

func TestP1Code4(t *testing.T) {
	for kind := impl.MLine; kind < impl.MTurn; kind++ {
		if kind == impl.MCall {
			continue
		}
		wantFault(t, "fn 1 in the text", trace(turn(0), impl.Moment{Kind: kind, Fn: 1, Line: 1}), 4, 1)
		wantFault(t, "the text's fn in a call of fn 1", trace(call(0, 1), impl.Moment{Kind: kind, Line: 1}), 4, 1)
		wantFault(t, "a fn behind its call", trace(call(0, 1), back(0, 1), impl.Moment{Kind: kind, Fn: 1, Line: 1}), 4, 2)
		wantFault(t, "fn 1 in a task without calls", trace(turn(1), impl.Moment{Kind: kind, Task: 1, Fn: 1, Line: 1}), 4, 1)
	}
	wantFault(t, "a line in a task without calls", trace(turn(1), line(1, 0, 1)), 4, 1)
	wantFault(t, "leaving in a task without calls", trace(turn(1), back(1, 0)), 4, 1)
	wantFault(t, "leaving the only call of a task twice", trace(turn(1), call(1, 0), back(1, 0), back(1, 0)), 4, 3)
	wantFault(t, "something printed in a task without calls", trace(turn(1), say(impl.MPrint, 1, 0)), 0, 0)
	wantFault(t, "leaving the text", trace(line(0, 0, 1), back(0, 0)), 4, 1)
	wantFault(t, "leaving the text behind a turn there and back", trace(turn(1), turn(0), back(0, 0)), 4, 2)
	wantFault(t, "leaving a call of fn 0", trace(call(0, 0), back(0, 0)), 0, 0)
	wantFault(t, "leaving a call of fn 0, then the text", trace(call(0, 0), back(0, 0), back(0, 0)), 4, 2)
}

// TestP1Code5 knows that the text's own call is one of the 200 of task 0.
func TestP1Code5(t *testing.T) {
	calls := slices.Repeat([]impl.Moment{call(0, 1)}, 199)
	wantFault(t, "199 calls and the text", trace(calls...), 0, 0)
	wantFault(t, "200 calls and the text", trace(append(calls, call(0, 1))...), 5, 199)
	wantFault(t, "room again behind a MBack", trace(append(calls, back(0, 1), call(0, 2))...), 0, 0)
	wantFault(t, "all else in 200 open calls", trace(append(calls, line(0, 1, 1), say(impl.MThrow, 0, 1), turn(0))...), 0, 0)
	others := append([]impl.Moment{turn(1)}, slices.Repeat([]impl.Moment{call(1, 1)}, 200)...)
	wantFault(t, "200 calls of task 1", trace(others...), 0, 0)
	wantFault(t, "201 calls of task 1", trace(append(others, call(1, 1))...), 5, 201)
	wantFault(t, "each task has its own 200", trace(append(others, turn(0), call(0, 1))...), 0, 0)
}

func TestP1TheFirstOfSeveral(t *testing.T) {
	over := deepCopy(busy())
	over.Moments[0].Kind = 0
	over.Fns[2] = strings.Repeat("n", 41)
	wantFault(t, "1 ahead of 2", over, 1, 0)
	wantFault(t, "2 ahead of an earlier 3", trace(line(1, 0, 1), line(0, 0, 0)), 2, 1)
	wantFault(t, "2 ahead of an earlier 4", trace(back(0, 0), turn(0), call(0, 3)), 2, 2)
	deep := slices.Repeat([]impl.Moment{call(0, 1)}, 200)
	wantFault(t, "2 ahead of an earlier 5", trace(append(deep, impl.Moment{})...), 2, 200)
	wantFault(t, "the earlier of two 2", trace(line(0, 0, 1), call(0, 3), impl.Moment{}), 2, 1)
	wantFault(t, "an earlier 4 ahead of 3", trace(line(0, 0, 1), back(0, 0), line(1, 0, 1)), 4, 1)
	wantFault(t, "an earlier 3 ahead of 4", trace(line(0, 0, 1), line(1, 0, 1), back(0, 0)), 3, 1)
	wantFault(t, "an earlier 5 ahead of 3", trace(append(deep, line(1, 0, 1))...), 5, 199)
	wantFault(t, "an earlier 5 ahead of 4", trace(append(deep, line(0, 0, 1))...), 5, 199)
	wantFault(t, "an earlier 4 ahead of 5", trace(append([]impl.Moment{line(0, 1, 1)}, deep...)...), 4, 0)
	wantFault(t, "an earlier 3 ahead of 5", trace(append([]impl.Moment{line(1, 0, 1)}, deep...)...), 3, 0)
	wantFault(t, "3 ahead of 4 at one moment", trace(line(1, 1, 1)), 3, 0)
	wantFault(t, "3 ahead of 5 at one moment", trace(append(slices.Clone(deep[:199]), call(1, 1))...), 3, 199)
}

func TestP1LeavesItsArgumentAlone(t *testing.T) {
	spoilt := busy()
	spoilt.Moments[12].Task = 3
	for _, x := range []impl.Trace{busy(), spoilt} {
		kept := deepCopy(x)
		first := impl.TraceOk(x)
		if second := impl.TraceOk(x); second != first {
			t.Errorf("TraceOk answers %v, then %v", first, second)
		}
		if !reflect.DeepEqual(x, kept) {
			t.Error("TraceOk wrote into its argument")
		}
	}
}
