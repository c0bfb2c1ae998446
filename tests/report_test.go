package tests

import (
	"fmt"
	"slices"
	"strings"
	"testing"

	"loop.example/lens/impl"
)

func wantReport(t *testing.T, x impl.Trace, want ...string) {
	t.Helper()
	text := ""
	for _, s := range want {
		text += s + "\n"
	}
	if got := impl.Report(x); got != text {
		t.Errorf("Report answers %q, want %q", got, text)
	}
}

func TestP9Busy(t *testing.T) {
	wantReport(t, busy(),
		"0 main calls 1 self 2 total 4",
		"\t1 1",
		"\t2 1",
		"1 f calls 2 self 2 total 2",
		"\t10 1",
		"\t11 1",
		"2 g calls 1 self 2 total 2",
		"\t20 1",
		"\t21 1",
	)
}

// TestP9LinesByNumber: by numbers and not by letters, each with its own fn only.
func TestP9LinesByNumber(t *testing.T) {
	x := trace(
		line(0, 0, 100000), line(0, 0, 10), line(0, 0, 2), line(0, 0, 10),
		call(0, 2), line(0, 2, 10), line(0, 2, 9), call(0, 0), line(0, 0, 7),
	)
	wantReport(t, x,
		"0 main calls 2 self 5 total 7",
		"\t2 1",
		"\t7 1",
		"\t10 2",
		"\t100000 1",
		"2 g calls 1 self 2 total 3",
		"\t9 1",
		"\t10 1",
	)
}

// TestP9FnsWithoutCalls have no line; a fn with calls in which no line began has one of its own.
func TestP9FnsWithoutCalls(t *testing.T) {
	wantReport(t, trace(call(0, 2)), "0 main calls 1 self 0 total 0", "2 g calls 1 self 0 total 0")
	wantReport(t, trace(line(0, 0, 3)), "0 main calls 1 self 1 total 1", "\t3 1")
	x := impl.Trace{Fns: slices.Repeat([]string{"n"}, 300), Moments: []impl.Moment{call(0, 299), line(0, 299, 1), call(0, 10)}}
	wantReport(t, x, "0 n calls 1 self 0 total 1", "10 n calls 1 self 0 total 0", "299 n calls 1 self 1 total 1", "\t1 1")
}

func TestP9NoMoments(t *testing.T) {
	wantReport(t, trace(), "0 main calls 1 self 0 total 0")
	wantReport(t, impl.Trace{Fns: []string{""}}, "0  calls 1 self 0 total 0")
}

// TestP9NamesAsTheyAre: whatever bytes they have.
func TestP9NamesAsTheyAre(t *testing.T) {
	long := strings.Repeat("n", 40)
	x := impl.Trace{Fns: []string{"a b", long, "\t%d\n\xff\x00ä"}, Moments: []impl.Moment{call(0, 1), call(0, 2), line(0, 2, 5)}}
	wantReport(t, x,
		"0 a b calls 1 self 0 total 1",
		"1 "+long+" calls 1 self 0 total 1",
		"2 \t%d\n\xff\x00ä calls 1 self 1 total 1",
		"\t5 1",
	)
}

func TestP9NotSound(t *testing.T) {
	for _, x := range unsound() {
		wantReport(t, x)
	}
	wantReport(t, impl.Trace{Fns: []string{strings.Repeat("n", 41)}})
}

func TestP9FullTraces(t *testing.T) {
	wantReport(t, trace(slices.Repeat([]impl.Moment{line(0, 0, 5)}, 3000)...), "0 main calls 1 self 3000 total 3000", "\t5 3000")
	moments := make([]impl.Moment, 3000)
	want := []string{"0 main calls 1 self 3000 total 3000"}
	for i := range moments {
		moments[2999-i] = line(0, 0, i+1)
		want = append(want, fmt.Sprintf("\t%d 1", i+1))
	}
	wantReport(t, trace(moments...), want...)
}

func TestP9AgainstTheModel(t *testing.T) {
	for seed := range 150 {
		d := dice(seed)
		x := d.soundTrace(20+seed, 1+seed%4, 1+seed%6)
		var want []string
		for fn, row := range plainFns(x) {
			x.Fns[fn] = fmt.Sprint("fn", fn)
			if row.Calls == 0 {
				continue
			}
			want = append(want, fmt.Sprintf("%d fn%d calls %d self %d total %d", fn, fn, row.Calls, row.Self, row.Total))
			for _, c := range plainLines(x) {
				if c.Fn == fn {
					want = append(want, fmt.Sprintf("\t%d %d", c.Line, c.Count))
				}
			}
		}
		wantReport(t, x, want...)
		if t.Failed() {
			t.Fatalf("seed %d", seed)
		}
	}
}
