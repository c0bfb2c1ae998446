package tests

import (
	"slices"
	"testing"

	"loop.example/lens/impl"
)

func line(task, fn, n int) impl.Moment {
	return impl.Moment{Kind: impl.MLine, Task: task, Fn: fn, Line: n}
}

func call(task, fn int) impl.Moment {
	return impl.Moment{Kind: impl.MCall, Task: task, Fn: fn}
}

func back(task, fn int) impl.Moment {
	return impl.Moment{Kind: impl.MBack, Task: task, Fn: fn}
}

func turn(task int) impl.Moment {
	return impl.Moment{Kind: impl.MTurn, Task: task}
}

func say(kind, task, fn int) impl.Moment {
	return impl.Moment{Kind: kind, Task: task, Fn: fn, Text: "said"}
}

// with adds a variable to a moment, in memory of its own.
func with(m impl.Moment, name, text string) impl.Moment {
	m.Vars = append(slices.Clone(m.Vars), impl.Var{Name: name, Text: text})
	return m
}

func trace(moments ...impl.Moment) impl.Trace {
	return impl.Trace{Fns: []string{"main", "f", "g"}, Moments: moments}
}

// deepCopy answers a trace that shares no list with the one it is given.
func deepCopy(t impl.Trace) impl.Trace {
	c := impl.Trace{Fns: slices.Clone(t.Fns), Moments: slices.Clone(t.Moments)}
	for i := range c.Moments {
		c.Moments[i].Vars = slices.Clone(c.Moments[i].Vars)
	}
	return c
}

func wantFault(t *testing.T, what string, x impl.Trace, code, moment int) {
	t.Helper()
	want := impl.Fault{Code: code, Moment: moment}
	if got := impl.TraceOk(x); got != want {
		t.Errorf("%s: TraceOk answers %v, want %v", what, got, want)
	}
}

func wantStack(t *testing.T, x impl.Trace, k, task int, want ...impl.Frame) {
	t.Helper()
	if got := impl.StackAt(x, k, task); !slices.Equal(got, want) {
		t.Errorf("StackAt place %d, task %d: %v, want %v", k, task, got, want)
	}
}

func wantRunning(t *testing.T, x impl.Trace, k, want int) {
	t.Helper()
	if got := impl.RunningAt(x, k); got != want {
		t.Errorf("RunningAt place %d: %d, want %d", k, got, want)
	}
}
