package impl

const (
	MaxMoments = 3000
	MaxFns     = 300
	MaxTasks   = 101
	MaxDepth   = 200
	MaxVars    = 200
	MaxLine    = 100000
	MaxName    = 40
	MaxText    = 4000
)

const (
	MLine  = 1
	MCall  = 2
	MBack  = 3
	MThrow = 4
	MCatch = 5
	MPrint = 6
	MTurn  = 7
)

// Var is a variable by its name, and the text of its value.
type Var struct {
	Name string
	Text string
}

// Moment is one thing that a run showed, with the variables of the innermost open call.
type Moment struct {
	Kind int
	Task int
	Fn   int
	Line int
	Text string
	Vars []Var
}

// Trace is a run: the names of its fns, and its moments in order.
type Trace struct {
	Fns     []string
	Moments []Moment
}

// Fault is what is wrong with a trace, and at which moment.
type Fault struct {
	Code   int
	Moment int
}

// Frame is an open call: of which fn, at which line, and the moment at which it was opened, -1 for the text's own.
type Frame struct {
	Fn   int
	Line int
	From int
}

// The codes of a Fault.
const (
	badSizes  = 1
	badMoment = 2
	badTask   = 3
	badCall   = 4
	badDepth  = 5
)

// textFrom is the From of the text's own call, which no moment opened.
const textFrom = -1

// TraceOk answers the zero value for a sound trace, else its first fault.
func TraceOk(t Trace) Fault {
	_, fault := readTrace(t)
	return fault
}

// StackAt answers the open calls of a task at place k, the innermost first.
func StackAt(t Trace, k, task int) []Frame {
	places, fault := readTrace(t)
	if fault != (Fault{}) || !isPlace(t, k) || task < 0 || task >= MaxTasks {
		return nil
	}
	return placeAt(places, k).openIn(task).frames()
}

// RunningAt answers the task that runs at place k, -1 when there is no such place.
func RunningAt(t Trace, k int) int {
	places, fault := readTrace(t)
	if fault != (Fault{}) || !isPlace(t, k) {
		return -1
	}
	return placeAt(places, k).running
}

// readTrace answers what is open at each place of a sound trace (see placeAt), or the first fault.
// Every moment is held against its own limits ahead of all following: such a fault comes first even at a later moment.
func readTrace(t Trace) ([]place, Fault) {
	if !sizesOk(t) {
		return nil, Fault{Code: badSizes}
	}
	for i, m := range t.Moments {
		if !momentOk(m, len(t.Fns)) {
			return nil, Fault{Code: badMoment, Moment: i}
		}
	}
	return followMoments(t.Moments)
}

func sizesOk(t Trace) bool {
	if len(t.Fns) == 0 || len(t.Fns) > MaxFns || len(t.Moments) > MaxMoments {
		return false
	}
	for _, name := range t.Fns {
		if len(name) > MaxName {
			return false
		}
	}
	return true
}

func momentOk(m Moment, fns int) bool {
	if m.Kind < MLine || m.Kind > MTurn {
		return false
	}
	if m.Task < 0 || m.Task >= MaxTasks || m.Fn < 0 || m.Fn >= fns {
		return false
	}
	if m.Line < 0 || m.Line > MaxLine || m.Kind == MLine && m.Line == 0 {
		return false
	}
	return len(m.Text) <= MaxText && varsOk(m.Vars)
}

func varsOk(vars []Var) bool {
	if len(vars) > MaxVars {
		return false
	}
	for _, v := range vars {
		if len(v.Name) < 1 || len(v.Name) > MaxName || len(v.Text) > MaxText {
			return false
		}
	}
	return true
}

// followMoments answers the places that the moments lead through, or the first moment that can't follow those before it.
func followMoments(moments []Moment) ([]place, Fault) {
	now := firstPlace()
	places := make([]place, 0, len(moments)+1)
	places = append(places, now)
	for i, m := range moments {
		e := eventOf(m)
		if code := now.refuses(e); code != 0 {
			return nil, Fault{Code: code, Moment: i}
		}
		now = now.after(e, i)
		places = append(places, now)
	}
	return places, Fault{}
}

func isPlace(t Trace, k int) bool {
	return k >= -1 && k <= len(t.Moments)
}

// placeAt answers place k of those that readTrace answered.
// The place behind all moments has no entry of its own: nothing happens between it and the last one.
func placeAt(places []place, k int) place {
	return places[min(k+1, len(places)-1)]
}

// event is what a moment does to the open calls; its type says which kind of moment it was.
type event interface {
	site() spot
}

// spot is the task and the fn that a moment names.
type spot struct {
	task int
	fn   int
}

func (s spot) site() spot { return s }

type lineBegun struct {
	spot
	line int
}

type callOpened struct{ spot }

type callLeft struct{ spot }

type thrown struct{ spot }

type caught struct{ spot }

type printed struct{ spot }

type turned struct{ spot }

// eventOf is for moments that momentOk accepted.
func eventOf(m Moment) event {
	s := spot{task: m.Task, fn: m.Fn}
	switch m.Kind {
	case MLine:
		return lineBegun{spot: s, line: m.Line}
	case MCall:
		return callOpened{s}
	case MBack:
		return callLeft{s}
	case MThrow:
		return thrown{s}
	case MCatch:
		return caught{s}
	case MPrint:
		return printed{s}
	}
	return turned{s}
}

// openCall is an open call with those below it in its task; nil is a task without any.
// It is never written once it is made, so places can share it.
type openCall struct {
	frame Frame
	depth int
	below *openCall
}

// fn is 0 where nothing is open: that is what such a moment must name.
func (c *openCall) fn() int {
	if c == nil {
		return 0
	}
	return c.frame.Fn
}

// count answers how many calls are open, this one and those below it.
func (c *openCall) count() int {
	if c == nil {
		return 0
	}
	return c.depth
}

// opened answers the calls with a new one on top.
func (c *openCall) opened(frame Frame) *openCall {
	return &openCall{frame: frame, depth: c.count() + 1, below: c}
}

// atLine makes a new head: places before this one still hold the old line.
func (c *openCall) atLine(line int) *openCall {
	moved := *c
	moved.frame.Line = line
	return &moved
}

func (c *openCall) frames() []Frame {
	var list []Frame
	for ; c != nil; c = c.below {
		list = append(list, c.frame)
	}
	return list
}

// place is what is open at a place: the calls of the running task, and those of the tasks that wait.
// The waiting ones change at a turn only, so all places from one turn to the next share them.
type place struct {
	running int
	top     *openCall
	waiting *[MaxTasks]*openCall
}

func firstPlace() place {
	text := &openCall{frame: Frame{From: textFrom}, depth: 1}
	return place{top: text, waiting: new([MaxTasks]*openCall)}
}

// openIn is for tasks from 0 to MaxTasks - 1.
func (p place) openIn(task int) *openCall {
	if task == p.running {
		return p.top
	}
	return p.waiting[task]
}

// refuses answers the code of what keeps an event from following here, 0 when nothing does.
func (p place) refuses(e event) int {
	if _, turn := e.(turned); turn {
		return 0
	}
	named := e.site()
	if named.task != p.running {
		return badTask
	}
	switch e.(type) {
	case callOpened:
		if p.top.count() >= MaxDepth {
			return badDepth
		}
		return 0
	case lineBegun:
		if p.top == nil {
			return badCall
		}
	case callLeft:
		if p.top == nil || p.top.frame.From == textFrom {
			return badCall
		}
	}
	if named.fn != p.top.fn() {
		return badCall
	}
	return 0
}

// after answers the place behind an event that is not refused here; it is the trace's moment m.
func (p place) after(e event, m int) place {
	switch e := e.(type) {
	case lineBegun:
		p.top = p.top.atLine(e.line)
	case callOpened:
		p.top = p.top.opened(Frame{Fn: e.fn, From: m})
	case callLeft:
		p.top = p.top.below
	case turned:
		return p.turnedTo(e.task)
	}
	return p
}

func (p place) turnedTo(task int) place {
	if task == p.running {
		return p
	}
	waiting := *p.waiting
	waiting[p.running] = p.top
	return place{running: task, top: waiting[task], waiting: &waiting}
}
