package tests

import (
	"math"
	"reflect"
	"slices"
	"testing"

	"loop.example/lens/impl"
)

// TestP2EachPlace follows task 0 through a call, a call in it, and the way back.
func TestP2EachPlace(t *testing.T) {
	x := trace(
		line(0, 0, 1),          // 0
		call(0, 1),             // 1
		line(0, 1, 10),         // 2
		line(0, 1, 11),         // 3
		call(0, 1),             // 4
		line(0, 1, 10),         // 5
		say(impl.MThrow, 0, 1), // 6
		back(0, 1),             // 7
		say(impl.MCatch, 0, 1), // 8
		back(0, 1),             // 9
		line(0, 0, 2),          // 10
	)
	for k, want := range [][]impl.Frame{
		{{Fn: 0, Line: 0, From: -1}},
		{{Fn: 0, Line: 1, From: -1}},
		{{Fn: 1, Line: 0, From: 1}, {Fn: 0, Line: 1, From: -1}},
		{{Fn: 1, Line: 10, From: 1}, {Fn: 0, Line: 1, From: -1}},
		{{Fn: 1, Line: 11, From: 1}, {Fn: 0, Line: 1, From: -1}},
		{{Fn: 1, Line: 0, From: 4}, {Fn: 1, Line: 11, From: 1}, {Fn: 0, Line: 1, From: -1}},
		{{Fn: 1, Line: 10, From: 4}, {Fn: 1, Line: 11, From: 1}, {Fn: 0, Line: 1, From: -1}},
		{{Fn: 1, Line: 10, From: 4}, {Fn: 1, Line: 11, From: 1}, {Fn: 0, Line: 1, From: -1}},
		{{Fn: 1, Line: 11, From: 1}, {Fn: 0, Line: 1, From: -1}},
		{{Fn: 1, Line: 11, From: 1}, {Fn: 0, Line: 1, From: -1}},
		{{Fn: 0, Line: 1, From: -1}},
		{{Fn: 0, Line: 2, From: -1}},
		{{Fn: 0, Line: 2, From: -1}},
	} {
		wantStack(t, x, k-1, 0, want...)
		wantStack(t, x, k-1, 1)
		wantRunning(t, x, k-1, 0)
	}
}

func TestP2OnlyALineSetsALine(t *testing.T) {
	m := impl.Moment{Kind: impl.MCall, Fn: 1, Line: 77}
	x := trace(line(0, 0, 5), m, impl.Moment{Kind: impl.MPrint, Fn: 1, Line: 78}, impl.Moment{Kind: impl.MBack, Fn: 1, Line: 79})
	wantStack(t, x, 1, 0, impl.Frame{Fn: 1, From: 1}, impl.Frame{Line: 5, From: -1})
	wantStack(t, x, 2, 0, impl.Frame{Fn: 1, From: 1}, impl.Frame{Line: 5, From: -1})
	wantStack(t, x, 3, 0, impl.Frame{Line: 5, From: -1})
}

func TestP2TurnsToAndFro(t *testing.T) {
	x := trace(
		line(0, 0, 1),          // 0
		turn(1),                // 1
		say(impl.MPrint, 1, 0), // 2
		call(1, 1),             // 3
		line(1, 1, 10),         // 4
		turn(100),              // 5
		call(100, 2),           // 6
		turn(1),                // 7
		line(1, 1, 11),         // 8
		turn(1),                // 9
		turn(0),                // 10
		line(0, 0, 2),          // 11
		turn(1),                // 12
		back(1, 1),             // 13
		turn(100),              // 14
		line(100, 2, 20),       // 15
	)
	for k, want := range map[int]int{-1: 0, 0: 0, 1: 1, 2: 1, 4: 1, 5: 100, 6: 100, 7: 1, 9: 1, 10: 0, 11: 0, 12: 1, 13: 1, 14: 100, 15: 100, 16: 100} {
		wantRunning(t, x, k, want)
	}
	text := func(line int) impl.Frame { return impl.Frame{Line: line, From: -1} }
	f := func(line int) impl.Frame { return impl.Frame{Fn: 1, Line: line, From: 3} }
	g := func(line int) impl.Frame { return impl.Frame{Fn: 2, Line: line, From: 6} }
	for k := 0; k <= 10; k++ {
		wantStack(t, x, k, 0, text(1))
	}
	for k := 11; k <= 16; k++ {
		wantStack(t, x, k, 0, text(2))
	}
	for k := -1; k < 3; k++ {
		wantStack(t, x, k, 1)
	}
	wantStack(t, x, 3, 1, f(0))
	for k := 4; k <= 7; k++ {
		wantStack(t, x, k, 1, f(10))
	}
	for k := 8; k <= 12; k++ {
		wantStack(t, x, k, 1, f(11))
	}
	for k := 13; k <= 16; k++ {
		wantStack(t, x, k, 1)
	}
	wantStack(t, x, 5, 100)
	for k := 6; k <= 14; k++ {
		wantStack(t, x, k, 100, g(0))
	}
	wantStack(t, x, 15, 100, g(20))
	wantStack(t, x, 16, 100, g(20))
}

func TestP2DeepestStack(t *testing.T) {
	x := trace(slices.Repeat([]impl.Moment{call(0, 1)}, 199)...)
	got := impl.StackAt(x, 199, 0)
	if len(got) != 200 {
		t.Fatalf("%d open calls, want 200", len(got))
	}
	for i, f := range got[:199] {
		if want := (impl.Frame{Fn: 1, From: 198 - i}); f != want {
			t.Errorf("call %d: %v, want %v", i, f, want)
		}
	}
	if want := (impl.Frame{From: -1}); got[199] != want {
		t.Errorf("the outermost call: %v, want %v", got[199], want)
	}
}

func TestP2WhatThereIsNot(t *testing.T) {
	x := trace(line(0, 0, 1), line(0, 0, 2))
	for _, k := range []int{-2, 3, math.MinInt, math.MaxInt} {
		wantStack(t, x, k, 0)
		wantRunning(t, x, k, -1)
	}
	for _, task := range []int{-1, 101, math.MinInt, math.MaxInt} {
		wantStack(t, x, 0, task)
	}
	wantStack(t, x, 0, 100)
	none := trace()
	for _, k := range []int{-1, 0} {
		wantStack(t, none, k, 0, impl.Frame{From: -1})
		wantRunning(t, none, k, 0)
	}
	wantStack(t, none, 1, 0)
	wantRunning(t, none, 1, -1)
}

// TestP2NotSound: nothing is told even of the places ahead of the fault.
func TestP2NotSound(t *testing.T) {
	long := slices.Repeat([]impl.Moment{line(0, 0, 1)}, 3001)
	deep := append([]impl.Moment{line(0, 0, 1)}, slices.Repeat([]impl.Moment{call(0, 1)}, 200)...)
	for _, x := range []impl.Trace{
		{},
		trace(long...),
		trace(line(0, 0, 1), line(0, 0, 0)),
		trace(line(0, 0, 1), line(1, 0, 1)),
		trace(line(0, 0, 1), back(0, 0)),
		trace(deep...),
	} {
		for _, k := range []int{-1, 0, 1, len(x.Moments)} {
			wantStack(t, x, k, 0)
			wantRunning(t, x, k, -1)
		}
	}
}

func TestP2AnswersAreNewMemory(t *testing.T) {
	x := busy()
	kept := deepCopy(x)
	for k := -1; k <= len(x.Moments); k++ {
		for task := range 3 {
			first := impl.StackAt(x, k, task)
			want := slices.Clone(first)
			for i := range first {
				first[i] = impl.Frame{Fn: 9, Line: 9, From: 9}
			}
			_ = append(first, impl.Frame{Fn: 8})
			wantStack(t, x, k, task, want...)
		}
		wantRunning(t, x, k, impl.RunningAt(x, k))
	}
	if !reflect.DeepEqual(x, kept) {
		t.Error("StackAt or RunningAt wrote into its argument")
	}
}
