package tests

import (
	"slices"
	"testing"

	"loop.example/lens/impl"
)

// model follows a trace in the plainest way, with a list of open calls for each task, innermost last.
type model struct {
	running int
	open    map[int][]impl.Frame
}

func newModel() *model {
	return &model{open: map[int][]impl.Frame{0: {{From: -1}}}}
}

// fault answers the code of the fault at a moment whose own fields are in order.
func (w *model) fault(m impl.Moment) int {
	calls := w.open[w.running]
	inner := impl.Frame{}
	if len(calls) > 0 {
		inner = calls[len(calls)-1]
	}
	needsCall := m.Kind == impl.MLine || m.Kind == impl.MBack
	switch {
	case m.Kind == impl.MTurn:
		return 0
	case m.Task != w.running:
		return 3
	case m.Kind == impl.MCall && len(calls) == impl.MaxDepth:
		return 5
	case m.Kind == impl.MCall:
		return 0
	case m.Fn != inner.Fn, needsCall && len(calls) == 0, m.Kind == impl.MBack && inner.From == -1:
		return 4
	}
	return 0
}

func (w *model) follow(i int, m impl.Moment) {
	calls := w.open[w.running]
	switch m.Kind {
	case impl.MTurn:
		w.running = m.Task
	case impl.MCall:
		w.open[w.running] = append(calls, impl.Frame{Fn: m.Fn, From: i})
	case impl.MBack:
		w.open[w.running] = calls[:len(calls)-1]
	case impl.MLine:
		calls[len(calls)-1].Line = m.Line
	}
}

func (w *model) stack(task int) []impl.Frame {
	s := slices.Clone(w.open[task])
	slices.Reverse(s)
	return s
}

// dice is a small generator with a seed, so that every run of the tests sees the same traces.
type dice uint32

func (d *dice) below(n int) int {
	*d = *d*1664525 + 1013904223
	return int(uint32(*d)>>8) % n
}

// rolled answers a moment with fields in order that most often follows from where the model stands.
func (d *dice) rolled(w *model, tasks, fns int) impl.Moment {
	m := impl.Moment{Kind: 1 + d.below(7), Task: w.running, Line: 1 + d.below(9)}
	if s := w.stack(w.running); len(s) > 0 {
		m.Fn = s[0].Fn
	}
	if m.Kind == impl.MTurn {
		m.Task = d.below(tasks)
	}
	if m.Kind == impl.MCall {
		m.Fn = d.below(fns)
	}
	if d.below(40) == 0 {
		m.Fn = d.below(fns)
	}
	if d.below(40) == 0 {
		m.Task = d.below(tasks)
	}
	return m
}

// soundTrace answers a trace of n moments without a fault.
func (d *dice) soundTrace(n, tasks, fns int) impl.Trace {
	x := impl.Trace{Fns: make([]string, fns)}
	w := newModel()
	for len(x.Moments) < n {
		m := d.rolled(w, tasks, fns)
		if w.fault(m) == 0 {
			w.follow(len(x.Moments), m)
			x.Moments = append(x.Moments, m)
		}
	}
	return x
}

// TestP1P2AgainstTheModel makes traces that go on past faults, and holds each of their sound beginnings against the model.
func TestP1P2AgainstTheModel(t *testing.T) {
	for seed := range 200 {
		d := dice(seed)
		x := impl.Trace{Fns: []string{"main", "f", "g"}}
		w := newModel()
		for len(x.Moments) < 60 {
			m := d.rolled(w, 3, len(x.Fns))
			i := len(x.Moments)
			bad := w.fault(m)
			longer := impl.Trace{Fns: x.Fns, Moments: append(slices.Clone(x.Moments), m)}
			if bad != 0 {
				longer.Moments = append(longer.Moments, turn(0), back(0, 0))
				wantFault(t, "rolled", longer, bad, i)
				wantStack(t, longer, i, 0)
				wantRunning(t, longer, i, -1)
				continue
			}
			wantFault(t, "rolled", longer, 0, 0)
			w.follow(i, m)
			x = longer
			wantRunning(t, x, i, w.running)
			for task := range 4 {
				wantStack(t, x, i, task, w.stack(task)...)
			}
		}
		wantEachPlace(t, x)
		if t.Failed() {
			t.Fatalf("seed %d", seed)
		}
	}
}

// wantEachPlace asks for all places of one whole trace, where TestP1P2AgainstTheModel asks for the last of each beginning.
func wantEachPlace(t *testing.T, x impl.Trace) {
	t.Helper()
	w := newModel()
	for k := -1; k <= len(x.Moments); k++ {
		if k >= 0 && k < len(x.Moments) {
			w.follow(k, x.Moments[k])
		}
		wantRunning(t, x, k, w.running)
		for task := range 4 {
			wantStack(t, x, k, task, w.stack(task)...)
		}
	}
}
