package tests

import (
	"cmp"
	"reflect"
	"slices"
	"testing"

	"loop.example/lens/impl"
)

func wantLines(t *testing.T, x impl.Trace, want ...impl.LineCount) {
	t.Helper()
	if got := impl.LineCounts(x); !slices.Equal(got, want) {
		t.Errorf("LineCounts answers %v, want %v", got, want)
	}
}

func wantFns(t *testing.T, x impl.Trace, want ...impl.FnCount) {
	t.Helper()
	if got := impl.FnCounts(x); !slices.Equal(got, want) {
		t.Errorf("FnCounts answers %v, want %v", got, want)
	}
}

func wantTree(t *testing.T, x impl.Trace, want ...impl.Branch) {
	t.Helper()
	if got := impl.CallTree(x); !slices.Equal(got, want) {
		t.Errorf("CallTree answers %v, want %v", got, want)
	}
}

// wantSums holds the counts of a sound trace against the numbers of its lines and calls.
func wantSums(t *testing.T, x impl.Trace) {
	t.Helper()
	lines, calls := 0, 1
	for _, m := range x.Moments {
		switch m.Kind {
		case impl.MLine:
			lines++
		case impl.MCall:
			calls++
		}
	}
	var byLine, byFn, byBranch, fnCalls, branchCalls int
	for _, c := range impl.LineCounts(x) {
		byLine += c.Count
	}
	for _, c := range impl.FnCounts(x) {
		byFn += c.Self
		fnCalls += c.Calls
	}
	for _, b := range impl.CallTree(x) {
		byBranch += b.Self
		branchCalls += b.Calls
	}
	if byLine != lines || byFn != lines || byBranch != lines {
		t.Errorf("%d lines are %d by line, %d by fn, %d by branch", lines, byLine, byFn, byBranch)
	}
	if fnCalls != calls || branchCalls != calls {
		t.Errorf("%d calls, the text too, are %d by fn, %d by branch", calls, fnCalls, branchCalls)
	}
}

func TestP3Busy(t *testing.T) {
	x := busy()
	wantSums(t, x)
	wantLines(t, x,
		impl.LineCount{Fn: 0, Line: 1, Count: 1},
		impl.LineCount{Fn: 0, Line: 2, Count: 1},
		impl.LineCount{Fn: 1, Line: 10, Count: 1},
		impl.LineCount{Fn: 1, Line: 11, Count: 1},
		impl.LineCount{Fn: 2, Line: 20, Count: 1},
		impl.LineCount{Fn: 2, Line: 21, Count: 1},
	)
	wantFns(t, x,
		impl.FnCount{Fn: 0, Calls: 1, Self: 2, Total: 4},
		impl.FnCount{Fn: 1, Calls: 2, Self: 2, Total: 2},
		impl.FnCount{Fn: 2, Calls: 1, Self: 2, Total: 2},
	)
	wantTree(t, x,
		impl.Branch{Fn: 0, Parent: -1, Calls: 1, Self: 2},
		impl.Branch{Fn: 1, Parent: 0, Calls: 1, Self: 2},
		impl.Branch{Fn: 2, Parent: -1, Calls: 1, Self: 2},
		impl.Branch{Fn: 1, Parent: 1, Calls: 1, Self: 0},
	)
}

// TestP3LinesInOrder begins lines out of order, of fns with the same numbers, and of numbers that letters would order otherwise.
func TestP3LinesInOrder(t *testing.T) {
	x := trace(
		line(0, 0, 100000), line(0, 0, 10), line(0, 0, 2),
		call(0, 2), line(0, 2, 2), back(0, 2),
		call(0, 1), line(0, 1, 10), line(0, 1, 2), line(0, 1, 10), back(0, 1),
		line(0, 0, 10), line(0, 0, 10),
	)
	wantSums(t, x)
	wantLines(t, x,
		impl.LineCount{Fn: 0, Line: 2, Count: 1},
		impl.LineCount{Fn: 0, Line: 10, Count: 3},
		impl.LineCount{Fn: 0, Line: 100000, Count: 1},
		impl.LineCount{Fn: 1, Line: 2, Count: 1},
		impl.LineCount{Fn: 1, Line: 10, Count: 2},
		impl.LineCount{Fn: 2, Line: 2, Count: 1},
	)
}

// TestP3OnlyBegunLines: all kinds of moments have a Line, but only one kind begins it.
func TestP3OnlyBegunLines(t *testing.T) {
	var moments []impl.Moment
	for kind := impl.MCall; kind <= impl.MTurn; kind++ {
		moments = append(moments, impl.Moment{Kind: kind, Line: 7})
	}
	x := trace(moments...)
	wantFault(t, "all kinds but a line", x, 0, 0)
	wantSums(t, x)
	wantLines(t, x)
	wantFns(t, x, impl.FnCount{Fn: 0, Calls: 2}, impl.FnCount{Fn: 1}, impl.FnCount{Fn: 2})
	wantTree(t, x, impl.Branch{Parent: -1, Calls: 1}, impl.Branch{Parent: 0, Calls: 1})
}

func TestP3FnsThatWereNeverCalled(t *testing.T) {
	x := impl.Trace{Fns: make([]string, 300), Moments: []impl.Moment{call(0, 299), line(0, 299, 1)}}
	want := make([]impl.FnCount, 300)
	for fn := range want {
		want[fn].Fn = fn
	}
	want[0] = impl.FnCount{Calls: 1, Total: 1}
	want[299] = impl.FnCount{Fn: 299, Calls: 1, Self: 1, Total: 1}
	wantFns(t, x, want...)
	wantTree(t, x, impl.Branch{Parent: -1, Calls: 1}, impl.Branch{Fn: 299, Calls: 1, Self: 1})
	wantSums(t, x)
}

// TestP3TotalOfOpenFns: f calls g, g calls f; each line counts once for each fn that is open, and no more when it has been left.
func TestP3TotalOfOpenFns(t *testing.T) {
	x := trace(
		line(0, 0, 1),
		call(0, 1), line(0, 1, 10),
		call(0, 2), line(0, 2, 20),
		call(0, 1), line(0, 1, 10), line(0, 1, 11), back(0, 1),
		line(0, 2, 21), back(0, 2),
		line(0, 1, 12), back(0, 1),
		line(0, 0, 2),
		call(0, 2), line(0, 2, 20), back(0, 2),
	)
	wantSums(t, x)
	wantFns(t, x,
		impl.FnCount{Fn: 0, Calls: 1, Self: 2, Total: 9},
		impl.FnCount{Fn: 1, Calls: 2, Self: 4, Total: 6},
		impl.FnCount{Fn: 2, Calls: 2, Self: 3, Total: 5},
	)
}

// TestP3TotalOfOneTask: a call that is open in a task that waits has no part in the lines of the one that runs.
func TestP3TotalOfOneTask(t *testing.T) {
	x := trace(
		line(0, 0, 1), call(0, 1), line(0, 1, 10),
		turn(1), call(1, 2), line(1, 2, 20),
		turn(0), line(0, 1, 11),
		turn(1), line(1, 2, 21), call(1, 1), line(1, 1, 10),
		turn(0), back(0, 1), line(0, 0, 2),
		turn(1), line(1, 1, 11),
	)
	wantSums(t, x)
	wantFns(t, x,
		impl.FnCount{Fn: 0, Calls: 1, Self: 2, Total: 4},
		impl.FnCount{Fn: 1, Calls: 2, Self: 4, Total: 4},
		impl.FnCount{Fn: 2, Calls: 1, Self: 2, Total: 4},
	)
	wantTree(t, x,
		impl.Branch{Fn: 0, Parent: -1, Calls: 1, Self: 2},
		impl.Branch{Fn: 1, Parent: 0, Calls: 1, Self: 2},
		impl.Branch{Fn: 2, Parent: -1, Calls: 1, Self: 2},
		impl.Branch{Fn: 1, Parent: 2, Calls: 1, Self: 2},
	)
}

// TestP3BranchesAsTheyAreMet goes back up to a branch that has calls already: what it calls next comes behind all others.
func TestP3BranchesAsTheyAreMet(t *testing.T) {
	x := trace(
		call(0, 2), line(0, 2, 1),
		call(0, 2), line(0, 2, 1),
		call(0, 1), line(0, 1, 1), back(0, 1),
		back(0, 2), back(0, 2),
		call(0, 1), line(0, 1, 1), back(0, 1),
		call(0, 2), line(0, 2, 2),
		call(0, 1), line(0, 1, 2), back(0, 1),
		call(0, 2),
		call(0, 1), line(0, 1, 2), line(0, 1, 3), back(0, 1),
		back(0, 2), line(0, 2, 3), back(0, 2),
		line(0, 0, 1),
	)
	wantSums(t, x)
	wantTree(t, x,
		impl.Branch{Fn: 0, Parent: -1, Calls: 1, Self: 1},
		impl.Branch{Fn: 2, Parent: 0, Calls: 2, Self: 3},
		impl.Branch{Fn: 2, Parent: 1, Calls: 2, Self: 1},
		impl.Branch{Fn: 1, Parent: 2, Calls: 2, Self: 3},
		impl.Branch{Fn: 1, Parent: 0, Calls: 1, Self: 1},
		impl.Branch{Fn: 1, Parent: 1, Calls: 1, Self: 1},
	)
}

// TestP3FirstCallsOfTasks: one branch for a fn that several tasks, or one several times, call while they have no open calls.
func TestP3FirstCallsOfTasks(t *testing.T) {
	x := trace(
		call(0, 1), line(0, 1, 1),
		turn(1), call(1, 1), line(1, 1, 1), back(1, 1),
		turn(2), call(2, 1), line(2, 1, 2), call(2, 2), line(2, 2, 1),
		turn(1), call(1, 1), call(1, 2), line(1, 2, 2),
		turn(3), call(3, 2), line(3, 2, 3), back(3, 2),
		turn(0), line(0, 1, 3),
	)
	wantSums(t, x)
	wantTree(t, x,
		impl.Branch{Fn: 0, Parent: -1, Calls: 1, Self: 0},
		impl.Branch{Fn: 1, Parent: 0, Calls: 1, Self: 2},
		impl.Branch{Fn: 1, Parent: -1, Calls: 3, Self: 2},
		impl.Branch{Fn: 2, Parent: 2, Calls: 2, Self: 2},
		impl.Branch{Fn: 2, Parent: -1, Calls: 1, Self: 1},
	)
}

// TestP3CallsOfTheText: in a task without open calls, a call of fn 0 is one of the first branch, which has that Fn and Parent.
func TestP3CallsOfTheText(t *testing.T) {
	x := trace(
		line(0, 0, 1), call(0, 0), line(0, 0, 1),
		turn(1), call(1, 0), line(1, 0, 2), call(1, 0), line(1, 0, 3), call(1, 1), line(1, 1, 4),
	)
	wantSums(t, x)
	wantFns(t, x,
		impl.FnCount{Fn: 0, Calls: 4, Self: 4, Total: 5},
		impl.FnCount{Fn: 1, Calls: 1, Self: 1, Total: 1},
		impl.FnCount{Fn: 2},
	)
	wantTree(t, x,
		impl.Branch{Fn: 0, Parent: -1, Calls: 2, Self: 2},
		impl.Branch{Fn: 0, Parent: 0, Calls: 2, Self: 2},
		impl.Branch{Fn: 1, Parent: 1, Calls: 1, Self: 1},
	)
}

func TestP3NoMoments(t *testing.T) {
	x := impl.Trace{Fns: []string{"main", "f"}}
	wantSums(t, x)
	wantLines(t, x)
	wantFns(t, x, impl.FnCount{Calls: 1}, impl.FnCount{Fn: 1})
	wantTree(t, x, impl.Branch{Parent: -1, Calls: 1})
}

func TestP3NotSound(t *testing.T) {
	long := slices.Repeat([]impl.Moment{line(0, 0, 1)}, 3001)
	deep := append([]impl.Moment{line(0, 0, 1)}, slices.Repeat([]impl.Moment{call(0, 1)}, 200)...)
	for _, x := range []impl.Trace{
		{},
		{Moments: []impl.Moment{line(0, 0, 1)}},
		trace(long...),
		trace(line(0, 0, 1), line(0, 0, 0)),
		trace(line(0, 0, 1), call(0, 3)),
		trace(line(0, 0, 1), line(1, 0, 1)),
		trace(line(0, 0, 1), back(0, 0)),
		trace(deep...),
	} {
		wantLines(t, x)
		wantFns(t, x)
		wantTree(t, x)
	}
}

func TestP3FullTraces(t *testing.T) {
	lines := trace(slices.Repeat([]impl.Moment{line(0, 0, 5)}, 3000)...)
	wantSums(t, lines)
	wantLines(t, lines, impl.LineCount{Line: 5, Count: 3000})
	wantFns(t, lines, impl.FnCount{Calls: 1, Self: 3000, Total: 3000}, impl.FnCount{Fn: 1}, impl.FnCount{Fn: 2})
	var turns []impl.Moment
	for i := range 1000 {
		task := (i + 1) % 101
		turns = append(turns, turn(task), call(task, 1), line(task, 1, 1))
	}
	wantSums(t, trace(turns...))
}

// TestP3AnswersAreNewMemory writes over the first answer, then asks again.
func TestP3AnswersAreNewMemory(t *testing.T) {
	x := busy()
	kept := deepCopy(x)
	lines, fns, branches := impl.LineCounts(x), impl.FnCounts(x), impl.CallTree(x)
	wantedLines, wantedFns, wantedTree := slices.Clone(lines), slices.Clone(fns), slices.Clone(branches)
	for i := range lines {
		lines[i] = impl.LineCount{Fn: 9, Line: 9, Count: 9}
	}
	for i := range fns {
		fns[i] = impl.FnCount{Fn: 9, Calls: 9, Self: 9, Total: 9}
	}
	for i := range branches {
		branches[i] = impl.Branch{Fn: 9, Parent: 9, Calls: 9, Self: 9}
	}
	wantLines(t, x, wantedLines...)
	wantFns(t, x, wantedFns...)
	wantTree(t, x, wantedTree...)
	if !reflect.DeepEqual(x, kept) {
		t.Error("LineCounts, FnCounts or CallTree wrote into its argument")
	}
}

// TestP3AgainstTheModel holds the counts of rolled traces against counts made in the plainest way.
func TestP3AgainstTheModel(t *testing.T) {
	for seed := range 150 {
		d := dice(seed)
		x := d.soundTrace(20+seed, 1+seed%4, 1+seed%5)
		wantSums(t, x)
		wantLines(t, x, plainLines(x)...)
		wantFns(t, x, plainFns(x)...)
		wantTree(t, x, plainTree(x)...)
		if t.Failed() {
			t.Fatalf("seed %d", seed)
		}
	}
}

func plainLines(x impl.Trace) []impl.LineCount {
	var list []impl.LineCount
	for _, m := range x.Moments {
		if m.Kind != impl.MLine {
			continue
		}
		i := slices.IndexFunc(list, func(c impl.LineCount) bool { return c.Fn == m.Fn && c.Line == m.Line })
		if i < 0 {
			i = len(list)
			list = append(list, impl.LineCount{Fn: m.Fn, Line: m.Line})
		}
		list[i].Count++
	}
	slices.SortFunc(list, func(a, b impl.LineCount) int {
		return cmp.Or(cmp.Compare(a.Fn, b.Fn), cmp.Compare(a.Line, b.Line))
	})
	return list
}

func plainFns(x impl.Trace) []impl.FnCount {
	list := make([]impl.FnCount, len(x.Fns))
	for fn := range list {
		w := newModel()
		list[fn].Fn = fn
		isOpen := func(f impl.Frame) bool { return f.Fn == fn }
		for i, m := range x.Moments {
			w.follow(i, m)
			if m.Kind == impl.MCall && m.Fn == fn {
				list[fn].Calls++
			}
			if m.Kind == impl.MLine && m.Fn == fn {
				list[fn].Self++
			}
			if m.Kind == impl.MLine && slices.ContainsFunc(w.stack(w.running), isOpen) {
				list[fn].Total++
			}
		}
	}
	list[0].Calls++
	return list
}

// plainTree tells branches apart by the fns on the way to them, outermost first.
func plainTree(x impl.Trace) []impl.Branch {
	w := newModel()
	paths := [][]int{{0}}
	list := []impl.Branch{{Parent: -1, Calls: 1}}
	find := func(path []int) int {
		return slices.IndexFunc(paths, func(p []int) bool { return slices.Equal(p, path) })
	}
	for i, m := range x.Moments {
		w.follow(i, m)
		var path []int
		for _, f := range w.open[w.running] {
			path = append(path, f.Fn)
		}
		switch m.Kind {
		case impl.MCall:
			if find(path) < 0 {
				list = append(list, impl.Branch{Fn: m.Fn, Parent: find(path[:len(path)-1])})
				paths = append(paths, path)
			}
			list[find(path)].Calls++
		case impl.MLine:
			list[find(path)].Self++
		}
	}
	return list
}

// selfCalls answers a trace in which fn 1 calls itself n times deep in a task, with one line in each call.
func selfCalls(task, n int) []impl.Moment {
	var moments []impl.Moment
	for range n {
		moments = append(moments, call(task, 1), line(task, 1, 7))
	}
	return moments
}

func TestP7CallsOfItself(t *testing.T) {
	for n := 1; n <= 150; n++ {
		x := trace(selfCalls(0, n)...)
		wantSums(t, x)
		wantLines(t, x, impl.LineCount{Fn: 1, Line: 7, Count: n})
		row := impl.FnCount{Fn: 1, Calls: n, Self: n, Total: n}
		wantFns(t, x, impl.FnCount{Calls: 1, Total: n}, row, impl.FnCount{Fn: 2})
		tree := []impl.Branch{{Parent: -1, Calls: 1}}
		for i := range n {
			tree = append(tree, impl.Branch{Fn: 1, Parent: i, Calls: 1, Self: 1})
		}
		wantTree(t, x, tree...)
	}
}

// TestP7LeftAndInATask calls itself in a task of its own, and goes back all the way.
func TestP7LeftAndInATask(t *testing.T) {
	for _, n := range []int{1, 2, 150} {
		moments := append([]impl.Moment{turn(1)}, selfCalls(1, n)...)
		moments = append(moments, slices.Repeat([]impl.Moment{back(1, 1)}, n)...)
		x := trace(append(moments, turn(0), line(0, 0, 1))...)
		wantSums(t, x)
		wantLines(t, x, impl.LineCount{Line: 1, Count: 1}, impl.LineCount{Fn: 1, Line: 7, Count: n})
		row := impl.FnCount{Fn: 1, Calls: n, Self: n, Total: n}
		wantFns(t, x, impl.FnCount{Calls: 1, Self: 1, Total: 1}, row, impl.FnCount{Fn: 2})
	}
}

// TestP7TheTextToo: the text's own call is the first of its n.
func TestP7TheTextToo(t *testing.T) {
	for _, n := range []int{1, 2, 150} {
		moments := []impl.Moment{line(0, 0, 7)}
		for range n - 1 {
			moments = append(moments, call(0, 0), line(0, 0, 7))
		}
		x := trace(moments...)
		wantLines(t, x, impl.LineCount{Line: 7, Count: n})
		wantFns(t, x, impl.FnCount{Calls: n, Self: n, Total: n}, impl.FnCount{Fn: 1}, impl.FnCount{Fn: 2})
	}
}
