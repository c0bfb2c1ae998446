package tests

import (
	"reflect"
	"slices"
	"testing"

	"loop.example/lens/impl"
)

// given is what the functions are given; every list in it has room behind it, so that what is written there is seen too.
type given struct {
	x     impl.Trace
	stops []impl.Stop
	asks  []impl.Ask
}

// roomy answers a copy of a list with two more elements behind it, marked.
func roomy[E any](list []E, mark E) []E {
	longer := slices.Concat(list, []E{mark, mark})
	return longer[:len(list)]
}

func givenOf(x impl.Trace, stops []impl.Stop, asks []impl.Ask) given {
	g := given{
		x:     impl.Trace{Fns: roomy(x.Fns, "mark"), Moments: roomy(x.Moments, line(9, 9, 9))},
		stops: roomy(stops, throwStop()),
		asks:  roomy(asks, op(impl.AUndo)),
	}
	for i := range g.x.Moments {
		g.x.Moments[i].Vars = roomy(g.x.Moments[i].Vars, impl.Var{Name: "mark"})
	}
	return g
}

// whole answers a copy that shares nothing, of the room behind the lists too.
func (g given) whole() given {
	all := func(vars []impl.Var) []impl.Var { return slices.Clone(vars[:cap(vars)]) }
	c := given{
		x:     impl.Trace{Fns: slices.Clone(g.x.Fns[:cap(g.x.Fns)]), Moments: slices.Clone(g.x.Moments[:cap(g.x.Moments)])},
		stops: slices.Clone(g.stops[:cap(g.stops)]),
		asks:  slices.Clone(g.asks[:cap(g.asks)]),
	}
	for i := range c.x.Moments {
		c.x.Moments[i].Vars = all(c.x.Moments[i].Vars)
	}
	return c
}

// everyAnswer calls each function of chapters 1 to 5.
func everyAnswer(g given) []any {
	x := g.x
	list := []any{
		impl.TraceOk(x), impl.LineCounts(x), impl.FnCounts(x), impl.CallTree(x),
		impl.Look(x, g.asks), impl.Report(x),
	}
	for _, s := range g.stops {
		list = append(list, impl.StopOk(s), impl.Hits(x, s))
	}
	for k := -2; k <= len(x.Moments)+1; k++ {
		list = append(list,
			impl.RunningAt(x, k), impl.Next(x, g.stops, k), impl.Last(x, g.stops, k),
			impl.Into(x, k), impl.Over(x, k), impl.Out(x, k), impl.Before(x, k),
		)
		for task := -1; task <= 2; task++ {
			list = append(list, impl.StackAt(x, k, task))
		}
		for _, s := range g.stops {
			list = append(list, impl.StopsAt(x, s, k))
		}
	}
	return list
}

// spoil writes into every list of an answer, and into the room behind it.
func spoil(answer any) {
	v := reflect.ValueOf(answer)
	if v.Kind() != reflect.Slice {
		return
	}
	if told, ok := answer.([]impl.Told); ok {
		for _, one := range told {
			spoil(one.Stack)
			spoil(one.Vars)
		}
	}
	v = v.Slice(0, v.Cap())
	for i := range v.Len() {
		spoilValue(v.Index(i))
	}
}

func spoilValue(v reflect.Value) {
	switch v.Kind() {
	case reflect.Int:
		v.SetInt(77)
	case reflect.String:
		v.SetString("spoilt")
	case reflect.Struct:
		for i := range v.NumField() {
			spoilValue(v.Field(i))
		}
	}
}

// givens answers sound traces and others, with stops and asks in order and others.
func givens() []given {
	stops := []impl.Stop{throwStop(), watch(1, "x"), callStop(1), lineStop(0, 2)}
	bad := append(slices.Clone(stops), impl.Stop{Kind: 7}, watch(2, ""))
	asks := append(goodAsks(), op(impl.AVars), opN(impl.ATo, 7), op(impl.AVars), op(impl.AVars), opN(impl.AWhere, 0), opN(impl.AWhere, 0))
	list := []given{
		givenOf(looked(), stops, asks),
		givenOf(looked(), bad, notAsTheTableSays()),
		givenOf(looked(), slices.Repeat(stops, 20), slices.Repeat(asks, 30)),
		givenOf(busy(), stops, asks),
		givenOf(trace(), stops, asks),
		{},
	}
	for _, x := range unsound() {
		if len(x.Moments) < 300 {
			list = append(list, givenOf(x, stops, asks))
		}
	}
	return list
}

func TestP10NothingIsWrittenIntoAnArgument(t *testing.T) {
	for i, g := range givens() {
		kept := g.whole()
		everyAnswer(g)
		if !reflect.DeepEqual(g.whole(), kept) {
			t.Errorf("given %d was written into", i)
		}
	}
}

func TestP10TheSameArgumentHasTheSameAnswer(t *testing.T) {
	for i, g := range givens() {
		elsewhere := givenOf(g.x, g.stops, g.asks)
		first := everyAnswer(g)
		for range 3 {
			everyAnswer(givens()[0]) // what was asked in between is nothing to it
			if !reflect.DeepEqual(everyAnswer(g), first) {
				t.Errorf("given %d has another answer when it is asked again", i)
			}
			if !reflect.DeepEqual(everyAnswer(elsewhere), first) {
				t.Errorf("given %d has another answer when it lies elsewhere", i)
			}
		}
	}
}

func TestP10AnswersAreNewMemory(t *testing.T) {
	for i, g := range givens() {
		kept := g.whole()
		want := everyAnswer(givenOf(g.x, g.stops, g.asks))
		for _, answer := range everyAnswer(g) {
			spoil(answer)
		}
		if !reflect.DeepEqual(g.whole(), kept) {
			t.Errorf("given %d is written into by who writes into an answer", i)
		}
		if !reflect.DeepEqual(everyAnswer(g), want) {
			t.Errorf("given %d has another answer when one was written into", i)
		}
	}
}

// TestP10AnswersDoNotChange when what was asked with is written into later.
func TestP10AnswersDoNotChange(t *testing.T) {
	for i, g := range givens() {
		want := everyAnswer(givenOf(g.x, g.stops, g.asks))
		got := everyAnswer(g)
		for k := range g.x.Moments {
			spoil(g.x.Moments[k].Vars)
		}
		spoil(g.x.Fns)
		spoil(g.x.Moments)
		spoil(g.stops)
		spoil(g.asks)
		if !reflect.DeepEqual(got, want) {
			t.Errorf("the answers of given %d share memory with it", i)
		}
	}
}

// TestP10ListsOfOneAnswerShareNothing, asked twice at one place and once more behind an undoing.
func TestP10ListsOfOneAnswerShareNothing(t *testing.T) {
	x := looked()
	asks := []impl.Ask{
		opN(impl.ATo, 7),
		op(impl.AVars), op(impl.AVars), opN(impl.AWhere, 0), opN(impl.AWhere, 0), opN(impl.AWhere, 1), opN(impl.AWhere, 1),
		op(impl.AInto), op(impl.AUndo),
		op(impl.AVars), opN(impl.AWhere, 0),
	}
	want := impl.Look(x, asks)
	for i := range asks {
		got := impl.Look(x, asks)
		spoil(got[i].Vars)
		spoil(got[i].Stack)
		for j := range asks {
			if j != i && !sameTold(got[j], want[j]) {
				t.Errorf("the answers to asks %d and %d share memory", i, j)
			}
		}
	}
}
