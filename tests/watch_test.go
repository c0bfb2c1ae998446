package tests

import (
	"reflect"
	"strconv"
	"testing"

	"loop.example/lens/impl"
)

// TestP5SeenFirst: a variable holds where a call shows it first, an empty text too, and not where it stays as it was.
func TestP5SeenFirst(t *testing.T) {
	wantHits(t, trace(
		with(line(0, 0, 1), "x", ""),
		with(line(0, 0, 2), "x", ""),
		with(line(0, 0, 3), "x", "1"),
		with(line(0, 0, 4), "x", "1"),
		with(line(0, 0, 5), "x", ""),
	), watch(0, "x"), 0, 2, 4)
}

// TestP5PassedBy: a moment without the variable neither holds nor makes it new.
func TestP5PassedBy(t *testing.T) {
	x := trace(
		with(line(0, 0, 1), "x", "1"),
		line(0, 0, 2),
		with(line(0, 0, 3), "x", "1"),
		with(line(0, 0, 4), "y", "1"),
		with(line(0, 0, 5), "x", "2"),
		line(0, 0, 6),
		with(line(0, 0, 7), "x", "1"),
	)
	wantHits(t, x, watch(0, "x"), 0, 4, 6)
	wantHits(t, x, watch(0, "y"), 3)
}

// TestP5NamesAreWhole: neither a beginning of a name nor another case of its letters is that name.
func TestP5NamesAreWhole(t *testing.T) {
	x := trace(
		with(line(0, 0, 1), "x", "1"),
		with(line(0, 0, 2), "xx", "2"),
		with(line(0, 0, 3), "X", "3"),
		with(line(0, 0, 4), "x", "1"),
	)
	wantHits(t, x, watch(0, "x"), 0)
	wantHits(t, x, watch(0, "xx"), 1)
	wantHits(t, x, watch(0, "X"), 2)
}

func TestP5OfSeveralTheLast(t *testing.T) {
	x := trace(
		with(with(line(0, 0, 1), "x", "1"), "x", "2"),
		with(with(line(0, 0, 2), "x", "7"), "x", "2"),
		with(line(0, 0, 3), "x", "2"),
		with(with(with(line(0, 0, 4), "x", "2"), "y", "2"), "x", "3"),
		with(with(with(line(0, 0, 5), "x", "3"), "x", "3"), "y", "4"),
		with(with(line(0, 0, 6), "x", "3"), "x", "1"),
	)
	wantHits(t, x, watch(0, "x"), 0, 3, 5)
	wantHits(t, x, watch(0, "y"), 3, 4)
}

// TestP5ALeavingShowsTheCallThatItCloses, even where the call below is one of the same fn.
func TestP5ALeavingShowsTheCallThatItCloses(t *testing.T) {
	x := trace(
		call(0, 1),
		with(line(0, 1, 1), "x", "1"),
		call(0, 1),
		with(line(0, 1, 1), "x", "2"),
		with(back(0, 1), "x", "2"),
		with(line(0, 1, 2), "x", "1"),
		with(back(0, 1), "x", "3"),
		with(line(0, 0, 1), "x", "3"),
	)
	wantHits(t, x, watch(1, "x"), 1, 3, 6)
	wantHits(t, x, watch(0, "x"), 7)
	// the first that is seen of a call, when it is left
	x = trace(with(line(0, 0, 1), "x", "1"), call(0, 1), with(back(0, 1), "x", "1"), with(line(0, 0, 2), "x", "1"))
	wantHits(t, x, watch(1, "x"), 2)
	wantHits(t, x, watch(0, "x"), 0)
	// the only call of a task
	x = trace(turn(1), call(1, 2), with(back(1, 2), "x", "1"))
	wantHits(t, x, watch(2, "x"), 2)
	wantHits(t, x, watch(0, "x"))
}

// TestP5AnOpeningShowsTheNewCall, and what it shows is not told of the call below.
func TestP5AnOpeningShowsTheNewCall(t *testing.T) {
	x := trace(
		with(line(0, 0, 1), "x", "1"),
		with(call(0, 1), "x", "2"),
		with(line(0, 1, 1), "x", "2"),
		with(call(0, 1), "x", "2"),
		with(line(0, 1, 1), "x", "2"),
		back(0, 1),
		with(line(0, 1, 2), "x", "2"),
		back(0, 1),
		with(line(0, 0, 2), "x", "1"),
	)
	wantHits(t, x, watch(1, "x"), 1, 3)
	wantHits(t, x, watch(0, "x"), 0)
}

// TestP5CallsOneAfterTheOther: what an earlier call of the fn showed is nothing to a later one.
func TestP5CallsOneAfterTheOther(t *testing.T) {
	x := trace(
		call(0, 1),
		with(line(0, 1, 1), "x", "1"),
		back(0, 1),
		call(0, 1),
		with(line(0, 1, 1), "x", "1"),
		with(line(0, 1, 2), "x", "2"),
		back(0, 1),
	)
	wantHits(t, x, watch(1, "x"), 1, 4, 5)
}

// TestP5ACallOfTheSameFnInBetween, in the same task and in another one, changes nothing.
func TestP5ACallOfTheSameFnInBetween(t *testing.T) {
	inSame := trace(
		call(0, 1),
		with(line(0, 1, 1), "x", "1"),
		call(0, 1),
		with(line(0, 1, 1), "x", "9"),
		back(0, 1),
		with(line(0, 1, 2), "x", "1"),
		call(0, 1),
		with(line(0, 1, 1), "x", "2"),
		back(0, 1),
		with(line(0, 1, 3), "x", "2"),
	)
	wantHits(t, inSame, watch(1, "x"), 1, 3, 7, 9)
	inOther := trace(
		call(0, 1),
		with(line(0, 1, 1), "x", "1"),
		turn(1),
		call(1, 1),
		with(line(1, 1, 1), "x", "9"),
		turn(0),
		with(line(0, 1, 2), "x", "1"),
		turn(1),
		with(line(1, 1, 2), "x", "9"),
		with(line(1, 1, 3), "x", "1"),
		turn(0),
		with(line(0, 1, 3), "x", "9"),
		with(line(0, 1, 3), "x", "9"),
	)
	wantHits(t, inOther, watch(1, "x"), 1, 4, 9, 11)
}

// TestP5ATurnShowsTheTaskThatRunsBehindIt, whatever Fn it names.
func TestP5ATurnShowsTheTaskThatRunsBehindIt(t *testing.T) {
	named := func(task, fn int) impl.Moment { return impl.Moment{Kind: impl.MTurn, Task: task, Fn: fn} }
	x := trace(
		with(line(0, 0, 1), "x", "1"),     // 0
		turn(1),                           // 1
		call(1, 1),                        // 2
		with(line(1, 1, 1), "x", "2"),     // 3
		with(named(0, 1), "x", "1"),       // 4: the text's, as it was
		with(named(1, 0), "x", "3"),       // 5: f's
		with(line(1, 1, 2), "x", "3"),     // 6
		with(named(0, 1), "x", "4"),       // 7: the text's
		with(line(0, 0, 2), "x", "4"),     // 8
		with(turn(0), "x", "5"),           // 9: to the task that runs already
		with(named(2, 0), "x", "6"),       // 10: a task without calls
		with(named(1, 2), "x", "3"),       // 11: f's, as it was
		with(back(1, 1), "x", "3"),        // 12
		with(named(0, 2), "x", "5"),       // 13
		with(line(0, 0, 3), "x", "again"), // 14
	)
	wantFault(t, "turns", x, 0, 0)
	wantHits(t, x, watch(0, "x"), 0, 7, 9, 14)
	wantHits(t, x, watch(1, "x"), 3, 5)
	wantHits(t, x, watch(2, "x"))
}

// TestP5NoOpenCall: in a task without open calls moments name fn 0, and show no call of it.
func TestP5NoOpenCall(t *testing.T) {
	x := trace(
		with(line(0, 0, 1), "x", "1"),
		with(turn(1), "x", "2"),
		with(say(impl.MPrint, 1, 0), "x", "3"),
		with(say(impl.MThrow, 1, 0), "x", "4"),
		with(call(1, 0), "x", "5"),
		with(back(1, 0), "x", "6"),
		with(say(impl.MCatch, 1, 0), "x", "7"),
		with(turn(0), "x", "1"),
	)
	wantHits(t, x, watch(0, "x"), 0, 4, 5)
}

// TestP5EveryKindOfMomentShows what it has of the innermost call.
func TestP5EveryKindOfMomentShows(t *testing.T) {
	x := trace(
		with(call(0, 1), "x", "1"),
		with(line(0, 1, 1), "x", "2"),
		with(say(impl.MThrow, 0, 1), "x", "3"),
		with(say(impl.MCatch, 0, 1), "x", "4"),
		with(say(impl.MPrint, 0, 1), "x", "5"),
		with(turn(0), "x", "6"),
		with(back(0, 1), "x", "7"),
		with(line(0, 0, 1), "x", "8"),
	)
	wantHits(t, x, watch(1, "x"), 0, 1, 2, 3, 4, 5, 6)
	wantHits(t, x, watch(0, "x"), 7)
	wantWays(t, x, []impl.Stop{watch(0, "x")}, 7)
}

// shownCall is the open call that a moment shows; from is -2 for none.
type shownCall struct{ fn, from int }

func plainShown(x impl.Trace) []shownCall {
	var list []shownCall
	w := newModel()
	for i, m := range x.Moments {
		ahead := w.stack(w.running)
		w.follow(i, m)
		s := w.stack(w.running)
		if m.Kind == impl.MBack {
			s = ahead
		}
		shown := shownCall{from: -2}
		if len(s) > 0 {
			shown = shownCall{fn: s[0].Fn, from: s[0].From}
		}
		list = append(list, shown)
	}
	return list
}

// plainValue answers the text of the last variable of a name, and whether there is one.
func plainValue(m impl.Moment, name string) (string, bool) {
	text, found := "", false
	for _, v := range m.Vars {
		if v.Name == name {
			text, found = v.Text, true
		}
	}
	return text, found
}

// plainHolds looks back from moment k for the last one that showed the same call and had the variable.
func plainHolds(x impl.Trace, shown []shownCall, s impl.Stop, k int) bool {
	m := x.Moments[k]
	switch s.Kind {
	case impl.SLine:
		return m.Kind == impl.MLine && m.Fn == s.Fn && m.Line == s.Line
	case impl.SCall:
		return m.Kind == impl.MCall && m.Fn == s.Fn
	case impl.SThrow:
		return m.Kind == impl.MThrow
	}
	now, found := plainValue(m, s.Name)
	if !found || shown[k].from == -2 || shown[k].fn != s.Fn {
		return false
	}
	for i := k - 1; i >= 0; i-- {
		if before, had := plainValue(x.Moments[i], s.Name); had && shown[i] == shown[k] {
			return before != now
		}
	}
	return true
}

func plainHits(x impl.Trace, s impl.Stop) []int {
	var list []int
	shown := plainShown(x)
	for k := range x.Moments {
		if plainHolds(x, shown, s, k) {
			list = append(list, k)
		}
	}
	return list
}

// dressed gives each moment none to three variables of few names and values, so that they often meet again.
func (d *dice) dressed(x impl.Trace) impl.Trace {
	for i := range x.Moments {
		for range d.below(4) {
			x.Moments[i] = with(x.Moments[i], string(rune('x'+d.below(2))), strconv.Itoa(d.below(2)))
		}
	}
	return x
}

func TestP4P5AgainstThePlainLook(t *testing.T) {
	for seed := range 150 {
		d := dice(seed)
		x := d.dressed(d.soundTrace(60, 3, 3))
		kept := deepCopy(x)
		var stops []impl.Stop
		for fn := range 4 {
			stops = append(stops, watch(fn, "x"), watch(fn, "y"), callStop(fn), lineStop(fn, 1+d.below(9)))
		}
		stops = append(stops, throwStop())
		for _, s := range stops {
			wantHits(t, x, s, plainHits(x, s)...)
		}
		some := []impl.Stop{stops[d.below(len(stops))], stops[d.below(len(stops))], stops[d.below(len(stops))]}
		var hits []int
		for _, s := range some {
			hits = append(hits, plainHits(x, s)...)
		}
		wantWays(t, x, some, hits...)
		wantSame(t, x, kept)
		if t.Failed() {
			t.Fatalf("seed %d", seed)
		}
	}
}

func wantSame(t *testing.T, x, kept impl.Trace) {
	t.Helper()
	if !reflect.DeepEqual(x, kept) {
		t.Error("something was written into the trace")
	}
}
