package tests

import (
	"math"
	"slices"
	"strings"
	"testing"

	"loop.example/lens/impl"
)

// goodAsks has every Op, each of them with an ask that is told something, at a trace as looked.
func goodAsks() []impl.Ask {
	return []impl.Ask{
		stopAsk(watch(1, "x")),
		stopAsk(throwStop()),
		stopAsk(lineStop(0, 2)),
		op(impl.AGo),
		op(impl.AInto),
		op(impl.AVars),
		valueAsk("x"),
		op(impl.AOver),
		op(impl.AUndo),
		opN(impl.AWhere, 1),
		op(impl.AOut),
		opN(impl.ACount, 0),
		opN(impl.AClear, 0),
		op(impl.ABack),
		opN(impl.ACount, 1),
		opN(impl.ATo, 9),
		op(impl.ABack),
		op(impl.AUndo),
		op(impl.AUndo),
		op(impl.AGo),
		op(impl.AUndo),
		opN(impl.AClear, 0),
		op(impl.AUndo),
		op(impl.AGo),
	}
}

// plainAsk answers an ask of each Op that the table allows.
func plainAsk(o int) impl.Ask {
	a := op(o)
	switch o {
	case impl.AStop:
		a.Stop = callStop(1)
	case impl.AValue:
		a.Name = "x"
	}
	return a
}

// unnamedSet answers plainAsk with one field that the table does not name for it set, in every way.
func unnamedSet(o int) []impl.Ask {
	var list []impl.Ask
	add := func(change func(a *impl.Ask)) {
		a := plainAsk(o)
		change(&a)
		list = append(list, a)
	}
	if !slices.Contains([]int{impl.AClear, impl.ATo, impl.AWhere, impl.ACount}, o) {
		for _, n := range []int{1, -1, 5, math.MaxInt, math.MinInt} {
			add(func(a *impl.Ask) { a.N = n })
		}
	}
	if o != impl.AValue {
		for _, name := range []string{"x", "\x00", strings.Repeat("n", 41)} {
			add(func(a *impl.Ask) { a.Name = name })
		}
	}
	if o != impl.AStop {
		for _, s := range []impl.Stop{{Kind: 1}, {Kind: -1}, {Fn: 1}, {Line: 1}, {Name: "x"}, callStop(0), throwStop(), watch(1, "x")} {
			add(func(a *impl.Ask) { a.Stop = s })
		}
	}
	return list
}

// notAsTheTableSays answers asks that have code 1 wherever they stand.
func notAsTheTableSays() []impl.Ask {
	list := []impl.Ask{
		{},
		{N: 1, Name: "x", Stop: throwStop()},
		opN(impl.ATo, -2), opN(impl.ATo, 3001),
		opN(impl.AWhere, -1), opN(impl.AWhere, 101),
		opN(impl.AClear, -1), opN(impl.AClear, 50),
		opN(impl.ACount, -1), opN(impl.ACount, 50),
		valueAsk(""), valueAsk(strings.Repeat("n", 41)), valueAsk(strings.Repeat("ä", 21)),
	}
	for _, o := range []int{-1, 14, 15, math.MinInt, math.MaxInt} {
		list = append(list, op(o), impl.Ask{Op: o, Name: "x"})
	}
	for _, o := range []int{impl.AClear, impl.ATo, impl.AWhere, impl.ACount} {
		list = append(list, opN(o, math.MinInt), opN(o, math.MaxInt))
	}
	for _, s := range []impl.Stop{
		{}, {Kind: 5}, {Kind: -1}, {Fn: 1, Line: 1},
		lineStop(0, 0), lineStop(0, 100001), lineStop(300, 1), lineStop(-1, 1),
		callStop(300), {Kind: impl.SCall, Line: 1},
		watch(1, ""), watch(1, strings.Repeat("n", 41)), {Kind: impl.SWatch, Name: "x", Line: 1},
		{Kind: impl.SThrow, Fn: 1},
	} {
		list = append(list, stopAsk(s))
	}
	for o := impl.AStop; o <= impl.ACount; o++ {
		list = append(list, unnamedSet(o)...)
	}
	return list
}

// wantNothingChanged puts an ask that has a code between any two good ones: it is told nothing but that, and the others what they are told without it.
func wantNothingChanged(t *testing.T, x impl.Trace, good []impl.Ask, bad impl.Ask, wantCode int) {
	t.Helper()
	want := impl.Look(x, good)
	place := -1
	for i := 0; i <= len(good); i++ {
		asks := slices.Insert(slices.Clone(good), i, bad, bad)
		told := impl.Told{At: place, Code: wantCode}
		wantAnswers(t, x, asks, slices.Insert(slices.Clone(want), i, told, told))
		if i < len(want) {
			place = want[i].At
		}
	}
}

func TestP8GoodAsks(t *testing.T) {
	x := looked()
	var seen [impl.ACount + 1]bool
	for i, told := range impl.Look(x, goodAsks()) {
		if told.Code != 0 {
			t.Errorf("ask %d has code %d", i, told.Code)
		}
		seen[goodAsks()[i].Op] = true
	}
	for o := impl.AStop; o <= impl.ACount; o++ {
		if !seen[o] {
			t.Errorf("no good ask of Op %d", o)
		}
	}
}

func TestP8Code1ChangesNothing(t *testing.T) {
	x := looked()
	for _, bad := range notAsTheTableSays() {
		wantNothingChanged(t, x, goodAsks(), bad, 1)
	}
}

// TestP8PlainAsks: what TestP8Code1ChangesNothing spoils is in order as it stands.
func TestP8PlainAsks(t *testing.T) {
	for o := impl.AStop; o <= impl.ACount; o++ {
		first := []impl.Ask{stopAsk(throwStop()), opN(impl.ATo, 2)}
		got := impl.Look(looked(), append(first, plainAsk(o)))
		if got[2].Code != 0 {
			t.Errorf("Op %d has code %d", o, got[2].Code)
		}
	}
}

func TestP8OtherCodesChangeNothing(t *testing.T) {
	x := looked()
	for _, c := range []struct {
		ask  impl.Ask
		code int
	}{
		{opN(impl.AClear, 3), 2},
		{opN(impl.AClear, 49), 2},
		{opN(impl.ACount, 3), 2},
		{opN(impl.ACount, 49), 2},
		{valueAsk("w"), 3},
		{valueAsk(strings.Repeat("n", 40)), 3},
		{opN(impl.ATo, 13), 4},
		{opN(impl.ATo, 3000), 4},
	} {
		wantNothingChanged(t, x, goodAsks(), c.ask, c.code)
	}
}

func TestP8OneStopTooManyChangesNothing(t *testing.T) {
	full := slices.Repeat([]impl.Ask{stopAsk(lineStop(1, 10))}, impl.MaxStops)
	rest := []impl.Ask{op(impl.AGo), op(impl.AGo), op(impl.ABack), opN(impl.ACount, 49), op(impl.AUndo), opN(impl.AWhere, 0)}
	want := impl.Look(looked(), slices.Concat(full, rest))
	for i := range rest {
		n := len(full) + i
		asks := slices.Insert(slices.Concat(full, rest), n, stopAsk(throwStop()))
		told := impl.Told{At: want[n-1].At, Code: 2}
		wantAnswers(t, looked(), asks, slices.Insert(slices.Clone(want), n, told))
	}
}

func TestP8NothingToUndoChangesNothing(t *testing.T) {
	idle := []impl.Ask{stopAsk(throwStop()), op(impl.AVars), opN(impl.AWhere, 0), opN(impl.ACount, 0), opN(impl.AClear, 0), valueAsk("x")}
	wantNothingChanged(t, looked(), idle, op(impl.AUndo), 4)
}

// plainLook answers asks in the plainest way, all from the trace anew each time.
type plainLook struct {
	x     impl.Trace
	at    int
	stops []impl.Stop
	from  []int
}

// spoilt answers whether an ask is not as the table says.
func (p *plainLook) spoilt(a impl.Ask) bool {
	bounds := map[int][2]int{
		impl.AClear: {0, 49}, impl.ACount: {0, 49}, impl.ATo: {-1, 3000}, impl.AWhere: {0, 100},
	}
	b := bounds[a.Op]
	switch {
	case a.Op < 1 || a.Op > 13, a.N < b[0], a.N > b[1]:
		return true
	case a.Op == impl.AStop:
		return !impl.StopOk(a.Stop) || a.Name != ""
	case a.Op == impl.AValue:
		return a.Name == "" || len(a.Name) > 40 || a.Stop != impl.Stop{}
	}
	return a.Name != "" || a.Stop != impl.Stop{}
}

// refused answers the code of an ask, 0 for one that is told something.
func (p *plainLook) refused(a impl.Ask) int {
	switch {
	case p.spoilt(a):
		return 1
	case a.Op == impl.AStop && len(p.stops) == 50:
		return 2
	case (a.Op == impl.AClear || a.Op == impl.ACount) && a.N >= len(p.stops):
		return 2
	case a.Op == impl.AUndo && len(p.from) == 0, a.Op == impl.ATo && a.N > len(p.x.Moments):
		return 4
	}
	if a.Op == impl.AValue {
		if _, found := plainValue(p.moment(), a.Name); !found {
			return 3
		}
	}
	return 0
}

func (p *plainLook) moment() impl.Moment {
	if p.at < 0 || p.at == len(p.x.Moments) {
		return impl.Moment{}
	}
	return p.x.Moments[p.at]
}

// hits answers the moments at which one of some stops holds, in no order.
func (p *plainLook) hits(stops []impl.Stop) []int {
	var list []int
	for _, s := range stops {
		list = append(list, plainHits(p.x, s)...)
	}
	return list
}

// goal answers where a move leads.
func (p *plainLook) goal(a impl.Ask) int {
	next, last := len(p.x.Moments), -1
	for _, m := range p.hits(p.stops) {
		if m > p.at {
			next = min(next, m)
		}
		if m < p.at {
			last = max(last, m)
		}
	}
	s := plainSteps(p.x, plainPlaces(p.x), p.at)
	return map[int]int{impl.AGo: next, impl.ABack: last, impl.AInto: s.into, impl.AOver: s.over, impl.AOut: s.out, impl.ATo: a.N}[a.Op]
}

func (p *plainLook) tell(a impl.Ask) impl.Told {
	var told impl.Told
	told.Code = p.refused(a)
	if told.Code == 0 {
		p.do(a, &told)
	}
	told.At = p.at
	return told
}

func (p *plainLook) do(a impl.Ask, told *impl.Told) {
	switch a.Op {
	case impl.AStop:
		told.Num = len(p.stops)
		p.stops = append(p.stops, a.Stop)
	case impl.AClear:
		p.stops = append(slices.Clone(p.stops[:a.N]), p.stops[a.N+1:]...)
	case impl.AUndo:
		p.at = p.from[len(p.from)-1]
		p.from = p.from[:len(p.from)-1]
	case impl.AWhere:
		w := newModel()
		for k := 0; k <= p.at && k < len(p.x.Moments); k++ {
			w.follow(k, p.x.Moments[k])
		}
		told.Num, told.Stack = w.running, w.stack(a.N)
	case impl.AVars:
		told.Vars = p.moment().Vars
	case impl.AValue:
		told.Text, _ = plainValue(p.moment(), a.Name)
	case impl.ACount:
		for _, m := range p.hits(p.stops[a.N : a.N+1]) {
			if m <= p.at {
				told.Num++
			}
		}
	default:
		p.from, p.at = append(p.from, p.at), p.goal(a)
	}
}

// rolledAsk answers an ask that is most often as the table says, at a trace of n moments.
func (d *dice) rolledAsk(n int) impl.Ask {
	a := plainAsk(d.below(15))
	switch a.Op {
	case impl.AStop:
		fn := d.below(3)
		a.Stop = []impl.Stop{lineStop(fn, 1+d.below(9)), callStop(fn), watch(fn, "x"), watch(fn, "y"), throwStop()}[d.below(5)]
	case impl.AClear, impl.ACount, impl.AWhere:
		a.N = d.below(4)
	case impl.ATo:
		a.N = d.below(n+4) - 1
	case impl.AValue:
		a.Name = string(rune('x' + d.below(3)))
	}
	switch d.below(40) {
	case 0:
		a.N = d.below(4000) - 10
	case 1:
		a.Name = strings.Repeat("x", d.below(50))
	case 2:
		a.Stop = impl.Stop{Kind: d.below(6), Fn: d.below(2), Line: d.below(2)}
	}
	return a
}

func TestP8AgainstThePlainLook(t *testing.T) {
	for seed := range 150 {
		d := dice(seed)
		x := d.dressed(d.soundTrace(40, 1+d.below(4), 3))
		kept := deepCopy(x)
		p := plainLook{x: x, at: -1}
		var asks []impl.Ask
		var want []impl.Told
		for range 80 {
			a := d.rolledAsk(len(x.Moments))
			asks, want = append(asks, a), append(want, p.tell(a))
		}
		for range len(p.from) + 2 {
			asks, want = append(asks, op(impl.AUndo)), append(want, p.tell(op(impl.AUndo)))
		}
		if !sameTold(want[len(want)-1], code(-1, 4)) {
			t.Errorf("undoing all moves ends with %+v", want[len(want)-1])
		}
		wantAnswers(t, x, asks, want)
		asks, want = withoutCodes(asks, want)
		wantAnswers(t, x, asks, want)
		wantSame(t, x, kept)
		if t.Failed() {
			t.Fatalf("seed %d", seed)
		}
	}
}

// withoutCodes leaves out the asks that were told a code, and what they were told.
func withoutCodes(asks []impl.Ask, told []impl.Told) ([]impl.Ask, []impl.Told) {
	var keptAsks []impl.Ask
	var keptTold []impl.Told
	for i := range told {
		if told[i].Code == 0 {
			keptAsks, keptTold = append(keptAsks, asks[i]), append(keptTold, told[i])
		}
	}
	return keptAsks, keptTold
}
