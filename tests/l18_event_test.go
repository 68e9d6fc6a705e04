package tests

import (
	"fmt"
	"math"
	"slices"
	"strings"
	"testing"

	"loop.example/g00283/impl"
)

var eventWords = []string{"", "read", "write", "enter", "exit", "start", "join"}

// eventOf reads what tellEvent tells: "1" is an EvElse of thread 1, "1 read 17.2" its EvRead of the field at 2 of object 17.
func eventOf(told string) impl.Event {
	part := strings.Fields(told)
	var e impl.Event
	if _, err := fmt.Sscan(part[0], &e.Who); err != nil {
		panic(told)
	}
	if len(part) == 1 {
		return e
	}
	e.Kind = slices.Index(eventWords, part[1])
	id, at, isField := strings.Cut(part[2], ".")
	if _, err := fmt.Sscan(id, &e.Id); err != nil || e.Kind < 1 {
		panic(told)
	}
	if _, err := fmt.Sscan(at, &e.At); isField && err != nil {
		panic(told)
	}
	return e
}

func tellEvent(e impl.Event) string {
	switch {
	case e == impl.Event{Who: e.Who}:
		return fmt.Sprint(e.Who)
	case e.Kind == impl.EvRead || e.Kind == impl.EvWrite:
		return fmt.Sprintf("%d %s %d.%d", e.Who, eventWords[e.Kind], e.Id, e.At)
	case e.Kind > 0 && e.Kind < len(eventWords) && e.At == 0:
		return fmt.Sprintf("%d %s %d", e.Who, eventWords[e.Kind], e.Id)
	}
	return fmt.Sprintf("%+v", e)
}

func eventsOf(told string) []impl.Event {
	var list []impl.Event
	for _, part := range strings.Split(told, ";") {
		if strings.TrimSpace(part) != "" {
			list = append(list, eventOf(part))
		}
	}
	return list
}

func tellEvents(list []impl.Event) string {
	var told []string
	for _, e := range list {
		told = append(told, tellEvent(e))
	}
	return strings.Join(told, "; ")
}

// eventRight tells by itself what EventsOk asks of each event.
func eventRight(e impl.Event) bool {
	return e.Who >= 1 && e.Who <= 1000000 && e.Kind >= 0 && e.Kind <= 6 && e.Id >= 0 && e.Id <= 1000000 && e.At >= 0 && e.At <= 7
}

// eventThere tells an event by what stands ahead of the step and what stands behind it.
func eventThere(m impl.Model, id int) (impl.Event, bool) {
	behind, how := stepThere(m, id)
	if how != impl.StDone {
		return impl.Event{}, false
	}
	at := threadAt(m, id)
	x, comes := nowThere(m.Prog, m.Threads[at])
	hand, _ := handThere(x, comes)
	e := impl.Event{Who: id, Id: hand}
	switch ended := behind.Threads[at].State; {
	case hand == 0 || ended != impl.TdRun:
	case x.in.Op == impl.OpGet:
		e.Kind = 1
	case x.in.Op == impl.OpPut:
		e.Kind = 2
	case x.in.Op == impl.OpEnter:
		e.Kind = 3
	case x.in.Op == impl.OpExit:
		e.Kind = 4
	case x.in.Op == impl.OpStart && len(behind.Threads) > len(m.Threads):
		e.Kind = 5
	case x.in.Op == impl.OpJoin && threadAt(m, hand) >= 0:
		e.Kind = 6
	}
	switch e.Kind {
	case 0:
		e.Id = 0
	case 1, 2:
		e.At = fieldAt(m.Prog.Kinds[progBook(m.Prog).number(x.refers.A)].Fields, x.refers.B)
	}
	return e, true
}

func wantEvent(t *testing.T, m impl.Model, id int) (impl.Event, bool) {
	t.Helper()
	want, is := eventThere(m, id)
	got, ok := impl.EventOf(m, id)
	if got != want || ok != is {
		t.Fatalf("%+v: EventOf %d in %s is %s, %v in place of %s, %v", m.Prog, id, tellModel(m), tellEvent(got), ok, tellEvent(want), is)
	}
	if ok && (!eventRight(got) || !impl.EventsOk([]impl.Event{got})) {
		t.Fatalf("%+v: EventOf %d in %s is %+v", m.Prog, id, tellModel(m), got)
	}
	return got, ok
}

// wantTrace: Trace is EventOf each that is done, one behind the other; it is EventsOk.
func wantTrace(t *testing.T, m impl.Model, order []int) []impl.Event {
	t.Helper()
	now := m
	var want []impl.Event
	for _, id := range order {
		if e, ok := eventThere(now, id); ok {
			want = append(want, e)
		}
		now, _ = stepThere(now, id)
	}
	got := impl.Trace(m, order)
	if !slices.Equal(got, want) || !impl.EventsOk(got) {
		t.Fatalf("%+v: Trace of %v in %s is %s in place of %s", m.Prog, order, tellModel(m), tellEvents(got), tellEvents(want))
	}
	return got
}

func TestEventConstants(t *testing.T) {
	for i, kind := range []int{impl.EvElse, impl.EvRead, impl.EvWrite, impl.EvEnter, impl.EvExit, impl.EvStart, impl.EvJoin} {
		if kind != i {
			t.Errorf("kind %d is %d", i, kind)
		}
	}
}

// eventText: the first thread does all there is to do, and the second one, of object 17, calls a method.
const eventText = "class Main\nfield n I\nfield last I\nmethod run I 2\nnew Work\nstore 1\nload 1\nload 0\nput Work.of\nload 0\nenter\nload 0\npush 5\nput Main.last\n" +
	"load 1\nstart\nload 1\nstart\nload 0\nexit\nload 1\njoin\nnew Work\njoin\nload 0\nget Main.last\nprint\nnull\nget Main.n\nprint\npush 0\nreturn\n" +
	"class Work\nfield m I\nfield of Main\nmethod run I 1\nload 0\nget Work.of\nload 0\ncall Work.inner\nput Main.n\npush 0\nreturn\n" +
	"method inner I 1\nload 0\nenter\nload 0\nget Work.m\nload 0\nexit\nreturn\n"

func TestEventsOfAThreadFromItsBeginningToItsEnd(t *testing.T) {
	m := newModel(t, progOf(t, eventText))
	told := "1; 1; 1; 1; 1 write 17.1; 1; 1 enter 1; 1; 1; 1 write 1.1; 1; 1 start 17; 1; 1; 1; 1 exit 1; 1"
	// The second one: what it calls, and what returns, is seen by nobody.
	told += "; 17; 17 read 17.1; 17; 17; 17; 17 enter 17; 17; 17 read 17.0; 17; 17 exit 17; 17; 17 write 1.0; 17; 17"
	// The first one again: it joins what has ended, and what was not started; at null it is over.
	told += "; 1 join 17; 1; 1; 1; 1 read 1.1; 1; 1; 1"
	var order []int
	for i, want := range eventsOf(told) {
		got, ok := wantEvent(t, m, want.Who)
		if !ok || got != want {
			t.Fatalf("%d: %s in place of %s", i, tellEvent(got), tellEvent(want))
		}
		m, _ = wantStep(t, m, want.Who)
		order = append(order, want.Who)
	}
	if m.Threads[0].State != impl.TdNull || m.Threads[1].State != impl.TdEnd || len(m.Threads) != 2 {
		t.Errorf("%s", tellModel(m))
	}
	for _, id := range []int{1, 17, 18, 0} {
		if got, ok := wantEvent(t, m, id); ok || got != (impl.Event{}) {
			t.Errorf("%d: %s", id, tellEvent(got))
		}
	}
	begin := newModel(t, m.Prog)
	if got := tellEvents(wantTrace(t, begin, order)); got != told {
		t.Errorf("Trace is %s in place of %s", got, told)
	}
	// In between others that are not done: the trace is the same.
	var longer []int
	for _, id := range order {
		longer = append(longer, 0, id, 99, -1, 18)
	}
	if got := tellEvents(wantTrace(t, begin, longer)); got != told {
		t.Errorf("Trace is %s in place of %s", got, told)
	}
}

// An eventCase is an op of thread 3 with that on the stack, and the locks; "3": nobody sees it, "": it is not done.
type eventCase struct{ op, stack, locks, told string }

// eventMemory has objects of each class, those of Main (8), Kid (9) and Far (10) may be started.
const eventMemory = "3.0 0 @0; 8.0 5 @9; 9.1 0 @0 @10; 10.2 0 @0 @0; 11.3; 12.4; 13.5 |"

func wantEvents(t *testing.T, list []eventCase, others ...impl.Thread) {
	t.Helper()
	for _, x := range list {
		m := opModel(t, x.op, x.stack, eventMemory+x.locks, others...)
		if !impl.ModelOk(m) {
			t.Fatalf("%s is not right", tellModel(m))
		}
		got, ok := wantEvent(t, m, 3)
		want := impl.Event{}
		if x.told != "" {
			want = eventOf(x.told)
		}
		if ok != (x.told != "") || got != want {
			t.Errorf("%s of %s in %s: %s, %v in place of %s", x.op, x.stack, tellModel(m), tellEvent(got), ok, x.told)
		}
		wantTrace(t, m, []int{3, 3, 3})
	}
}

func TestEventsOfFields(t *testing.T) {
	wantEvents(t, []eventCase{
		{"get Main.n", "@8", "", "3 read 8.0"}, {"get Main.next", "@8", "", "3 read 8.1"}, {"get Main.n", "1 @3", "", "3 read 3.0"}, {"get Kid.far", "@10 @9", "", "3 read 9.2"},
		{"get Far.n", "@10", "", "3 read 10.0"}, {"get Far.next", "@10", "", "3 read 10.1"}, {"get Kid.far", "1 2 3 4 5 @10", "", "3 read 10.2"},
		{"put Main.n", "@8 6", "", "3 write 8.0"}, {"put Main.next", "@8 @9", "", "3 write 8.1"}, {"put Main.next", "@9 @0", "", "3 write 9.1"}, {"put Kid.far", "@9 @10", "", "3 write 9.2"},
		// The field's value stays as it was, or is another one: it is written in any case.
		{"put Main.n", "1 @8 5", "", "3 write 8.0"}, {"put Main.next", "@8 @9", " 8 4 1", "3 write 8.1"},
		// Null is at hand, though an object is written, and the other way round.
		{"get Main.n", "@0", "", "3"}, {"get Kid.far", "@8 @0", "", "3"}, {"put Main.n", "@0 6", "", "3"}, {"put Main.next", "@0 @9", "", "3"}, {"put Main.next", "@8 @0 @0", "", "3"},
		{"put Main.next", "@0 @8 @0", "", "3 write 8.1"},
		// In code that was not checked: too few, or a word at hand.
		{"get Main.n", "", "", ""}, {"get Main.n", "8", "", ""}, {"put Main.n", "6", "", ""}, {"put Main.n", "8 6", "", ""}, {"get Main.n", "@8 0", "", ""},
		// What is not there is asked for all the same, and so is a field that it has not.
		{"get Main.n", "@77", "", "3 read 77.0"}, {"put Main.next", "@1000000 @9", "", "3 write 1000000.1"}, {"get Kid.far", "@8", "", "3 read 8.2"}, {"put Main.n", "@11 6", "", "3 write 11.0"},
		{"put Main.n", "@8 @9", "", "3 write 8.0"},
	})
}

func TestEventsOfMonitors(t *testing.T) {
	wantEvents(t, []eventCase{
		{"enter", "@8", "", "3 enter 8"}, {"enter", "@3", "", "3 enter 3"}, {"enter", "1 @11", " 8 4 1", "3 enter 11"}, {"enter", "@8", " 8 3 1", "3 enter 8"}, {"enter", "@8", " 8 3 999", "3 enter 8"},
		{"enter", "@8", " 8 3 1000", ""}, {"enter", "@8", " 8 4 1", ""}, {"enter", "@8", " 8 1000000 1000", ""}, {"enter", "@8", " 3 4 1; 9 4 1", "3 enter 8"},
		{"enter", "@0", "", "3"}, {"enter", "@8 @0", " 8 3 1", "3"}, {"enter", "8", "", ""}, {"enter", "", "", ""}, {"enter", "@77", "", "3 enter 77"},
		{"exit", "@8", " 8 3 1", "3 exit 8"}, {"exit", "1 @8", " 8 3 2", "3 exit 8"}, {"exit", "@8", " 8 3 1000", "3 exit 8"}, {"exit", "@9 @3", " 3 3 1; 8 3 1; 9 4 1", "3 exit 3"},
		// It does not hold it: it ends as no owner, whoever else holds it, and whatever else it holds.
		{"exit", "@8", "", "3"}, {"exit", "@8", " 8 4 1", "3"}, {"exit", "@8", " 3 3 1; 9 3 1000; 10 8 1", "3"}, {"exit", "@3", " 8 3 1", "3"}, {"exit", "@77", " 8 3 1", "3"},
		{"exit", "@0", " 8 3 1", "3"}, {"exit", "@8 @0", " 8 3 1", "3"}, {"exit", "8", " 8 3 1", ""}, {"exit", "", " 8 3 1", ""},
	})
}

func TestEventsOfThreads(t *testing.T) {
	begins := []eventCase{
		{"start", "@8", "", "3 start 8"}, {"start", "1 @9", "", "3 start 9"}, {"start", "@8 @10", "", "3 start 10"},
		// No run, one with another Result, one with Params, and what is not there; the thread itself.
		{"start", "@11", "", "3"}, {"start", "@12", "", "3"}, {"start", "@13", "", "3"}, {"start", "@77", "", "3"}, {"start", "@3", "", "3"},
		{"start", "@0", "", "3"}, {"start", "@8 @0", "", "3"}, {"start", "8", "", ""}, {"start", "", "", ""},
	}
	wantEvents(t, begins)
	wantEvents(t, begins, overThread(700, impl.TdRun), overThread(2, impl.TdEnd))
	joins := []eventCase{
		{"join", "@8", "", "3"}, {"join", "@9", "", "3"}, {"join", "@11", "", "3"}, {"join", "@77", "", "3"}, {"join", "@0", "", "3"}, {"join", "@8 @0", "", "3"},
		{"join", "8", "", ""}, {"join", "", "", ""},
		// Nobody waits for the end of himself.
		{"join", "@3", "", ""},
	}
	wantEvents(t, joins)
	for state := impl.TdRun; state <= impl.TdRoom; state++ {
		over := []eventCase{{"start", "@8", "", "3"}, {"join", "@8", "", "3 join 8"}, {"join", "1 @77", "", "3 join 77"}, {"start", "@77", "", "3"}, {"join", "@9", "", "3"}, {"start", "@9", "", "3 start 9"}}
		if state == impl.TdRun {
			over[1].told, over[2].told = "", ""
		}
		wantEvents(t, over, overThread(8, state), overThread(77, state))
	}
}

func TestEventsOfThreadsAmongMany(t *testing.T) {
	for many := 198; many <= 200; many++ {
		others := manyThreads(100, many-1)
		full := []eventCase{{"start", "@8", "", "3 start 8"}, {"start", "@11", "", "3"}, {"start", "@77", "", "3"}}
		if many == 200 {
			full = []eventCase{{"start", "@8", "", ""}, {"start", "@11", "", ""}, {"start", "@77", "", ""}}
		}
		wantEvents(t, append(full, eventCase{"start", "@0", "", "3"}, eventCase{"start", "@3", "", "3"}, eventCase{"start", "@100", "", "3"}, eventCase{"join", "@100", "", "3 join 100"}, eventCase{"join", "@8", "", "3"}), others...)
	}
}

// What all others do is seen by nobody, also where an object is on the stack; they are told as done, also where the thread ends.
func TestEventsOfAllOtherOps(t *testing.T) {
	var list []eventCase
	for _, op := range []string{"push 1", "const 70000", "load 0", "store 0", "null", "new Kid", "new Lone", "goto 0", "goto 2", "zero 0", "print", "return", "pop", "dup", "call Main.get"} {
		for _, stack := range []string{"@8", "5 @9", "@0"} {
			list = append(list, eventCase{op, stack, " 8 3 1; 9 4 1", "3"})
		}
	}
	for _, op := range []string{"add", "sub", "mul", "less", "same"} {
		for _, stack := range []string{"@8 @9", "8 9", "@0 @0", "1 @8 5"} {
			list = append(list, eventCase{op, stack, " 8 3 1", "3"})
		}
	}
	list = append(list, eventCase{"call Main.put", "@8 5 @9", "", "3"}, eventCase{"call Main.put", "@0 5 @9", "", "3"}, eventCase{"call Main.get", "@11", "", "3"}, eventCase{"call Main.get", "@77", "", "3"},
		eventCase{"call Main.get", "8", "", ""}, eventCase{"add", "5", "", ""}, eventCase{"pop", "", "", ""}, eventCase{"load 2", "", "", ""}, eventCase{"return", "", "", ""})
	wantEvents(t, list)
	wantEvents(t, list, overThread(8, impl.TdRun), overThread(9, impl.TdEnd))
	// Without room for what is new, and too deep.
	m := opModel(t, "new Kid", "", eventMemory)
	m.Threads[0].Made = 15
	if got, ok := wantEvent(t, m, 3); !ok || got != (impl.Event{Who: 3}) {
		t.Errorf("%s, %v", tellEvent(got), ok)
	}
	m = opModel(t, "call Main.get", "@8", eventMemory)
	m.Threads[0] = deepThread(8)
	m.Threads[0].Frames[7] = oneFrame("@3 4", "@8").Frames[0]
	if got, ok := wantEvent(t, m, 3); !ok || got != (impl.Event{Who: 3}) {
		t.Errorf("%s, %v", tellEvent(got), ok)
	}
}

// Of the frames the last one counts, and of several threads that of the Id.
func TestEventsOfDeepThreads(t *testing.T) {
	for frames := 1; frames <= 8; frames++ {
		m := opModel(t, "put Main.next", "@8 @9", eventMemory, overThread(4, impl.TdRun), overThread(1000000, impl.TdRun))
		deep := deepThread(frames)
		deep.Frames[frames-1] = m.Threads[0].Frames[0]
		m.Threads[0] = deep
		m.Threads[1].Frames[0].Stack = valsOf("1 @10 @0")
		m.Threads[2].Frames[0].Stack = valsOf("@0 @9")
		for id, told := range map[int]string{3: "3 write 8.1", 4: "4 write 10.1", 1000000: "1000000"} {
			if got, ok := wantEvent(t, m, id); !ok || tellEvent(got) != told {
				t.Errorf("%s, %v in place of %s", tellEvent(got), ok, told)
			}
		}
	}
}

// wantNoEvent: nothing happens by Step of that id, and nothing is left of it in a trace.
func wantNoEvent(t *testing.T, m impl.Model, id int) {
	t.Helper()
	if got, ok := impl.EventOf(m, id); ok || got != (impl.Event{}) {
		t.Errorf("EventOf %d in %s is %s, %v", id, tellModel(m), tellEvent(got), ok)
	}
	if got := impl.Trace(m, []int{id, id}); len(got) != 0 {
		t.Errorf("Trace of %d in %s is %s", id, tellModel(m), tellEvents(got))
	}
}

func TestWhatIsNoEvent(t *testing.T) {
	m := opModel(t, "get Main.n", "@8", eventMemory, overThread(4, impl.TdEnd), overThread(5, impl.TdNull), overThread(6, impl.TdOwner), overThread(7, impl.TdDeep), overThread(8, impl.TdRoom))
	// A thread that there is not, an object without one, and one that is over.
	for _, id := range append(edgeNumbers(), 0, 1, 2, 9, 77, impl.MaxId, impl.MaxId+1, 1<<32+3, 4, 5, 6, 7, 8) {
		wantNoEvent(t, m, id)
	}
	// What waits for a monitor, at MaxCount, for a thread, to print, to start; and what can't be done.
	waiting := []impl.Model{opModel(t, "enter", "@8", eventMemory+" 8 4 1"), opModel(t, "enter", "@8", eventMemory+" 8 3 1000"), opModel(t, "join", "@8", eventMemory, overThread(8, impl.TdRun)), opModel(t, "join", "@3", eventMemory), opModel(t, "print", "5", eventMemory), opModel(t, "start", "@8", eventMemory, manyThreads(100, 199)...), opModel(t, "add", "5", eventMemory)}
	waiting[4].Out = make([]int, 400)
	for _, w := range waiting {
		if !impl.ModelOk(w) {
			t.Errorf("%s is not right", tellModel(w))
		}
		wantNoEvent(t, w, 3)
	}
	// One word less printed: it is done.
	waiting[4].Out = make([]int, 399)
	if got := impl.Trace(waiting[4], []int{3, 3}); tellEvents(got) != "3; 3" {
		t.Error(tellEvents(got))
	}
	// A model that is not right in whatever part.
	wrong := []func(m *impl.Model){
		func(m *impl.Model) { *m = impl.Model{} },
		func(m *impl.Model) { m.Prog = impl.Prog{} },
		func(m *impl.Model) { m.Prog.Kinds[1].Name = "Main" },
		func(m *impl.Model) { m.Prog.Kinds[0].Methods[0].List[0].N = -1 },
		func(m *impl.Model) { m.Prog.Kinds[0].Pool[0].A = "Nobody" },
		func(m *impl.Model) { m.Prog.Kinds[0].Pool[0].B = "nobody" },
		func(m *impl.Model) { m.Memory.Objects[0].Id = 0 },
		func(m *impl.Model) { m.Memory.Objects[1].Fields[0] = refVal(5) },
		func(m *impl.Model) { m.Memory.Locks = []impl.Lock{{Id: 8, Who: 3, Count: 1001}} },
		func(m *impl.Model) { m.Threads[2].Made = 16 },
		func(m *impl.Model) { m.Threads[1].Id = 3 },
		func(m *impl.Model) { m.Threads = append(m.Threads, manyThreads(100, 195)...) },
		func(m *impl.Model) { m.Out = make([]int, 401) },
		func(m *impl.Model) { m.Out = []int{1 << 31} },
		func(m *impl.Model) { m.Threads[0].Frames[0].Pc = 3 },
		func(m *impl.Model) { m.Threads[0].Frames[0].Stack = valsOf("@8 2147483648") },
	}
	for _, turn := range wrong {
		w := cloneModel(m)
		turn(&w)
		for _, id := range []int{3, 4, 9, 0, -1} {
			wantNoEvent(t, w, id)
		}
	}
}

// Behind a step that makes a model not right nothing happens any more.
func TestEventsBehindWhatIsWrittenWrong(t *testing.T) {
	m := opModel(t, "put Main.n", "@8 @9", eventMemory, overThread(8, impl.TdRun))
	m.Threads[1].Frames[0].Stack = valsOf("@9 1")
	if got := wantTrace(t, m, []int{8, 3, 8, 3}); tellEvents(got) != "8 write 9.0; 3 write 8.0" {
		t.Error(tellEvents(got))
	}
}

func TestTraceOfSeveralThreads(t *testing.T) {
	d := dice(181)
	m := newModel(t, progOf(t, meetText))
	var counts [7]int
	undone := 0
	for range 30 {
		order := d.orderOf(110 + d.below(60))
		list := wantTrace(t, m, order)
		for _, e := range list {
			counts[e.Kind]++
		}
		undone += len(order) - len(list)
		// Of two halves it is that of the first, and then that of the second, wherever it is cut.
		for _, cut := range []int{0, 1, d.below(len(order)), len(order) / 2, len(order) - 1, len(order)} {
			half, _ := impl.Run(m, order[:cut])
			if got := slices.Concat(impl.Trace(m, order[:cut]), impl.Trace(half, order[cut:])); !slices.Equal(got, list) {
				t.Fatalf("%v, cut at %d: %s in place of %s", order, cut, tellEvents(got), tellEvents(list))
			}
		}
		// It is as long as there are steps that are done.
		_, codes := impl.Run(m, order)
		done := 0
		for _, how := range codes {
			done += flagVal(how == impl.StDone).N
		}
		if done != len(list) {
			t.Fatalf("%v: %d are done, %s", order, done, tellEvents(list))
		}
	}
	if slices.Min(counts[1:]) < 20 || undone < 100 {
		t.Errorf("%v, %d", counts, undone)
	}
	for _, order := range [][]int{nil, {}, edgeNumbers(), {0, 99, -1}} {
		if got := wantTrace(t, m, order); len(got) != 0 {
			t.Errorf("%v: %s", order, tellEvents(got))
		}
	}
}

func TestTraceOfLongOrders(t *testing.T) {
	d := dice(182)
	m := newModel(t, progOf(t, "class Main\nmethod run I 1\nnew Main\nstart\nload 0\nenter\nload 0\nexit\ngoto 2\n"))
	for _, long := range []int{2999, 3000} {
		order := make([]int, long)
		for i := range order {
			order[i] = []int{1, 17, 273}[d.below(3)]
		}
		list := impl.Trace(m, order)
		if got := wantTrace(t, m, order[:60]); !slices.Equal(got, list[:len(got)]) || len(got) < 40 {
			t.Errorf("%s in place of %s", tellEvents(list[:60]), tellEvents(got))
		}
		half, _ := impl.Run(m, order[:long-40])
		if got := wantTrace(t, half, order[long-40:]); !slices.Equal(got, list[len(list)-len(got):]) || len(list) < long-20 || !impl.EventsOk(list) {
			t.Errorf("%d of %d", len(list), long)
		}
	}
	// Of as many as there may be each is done; of one more there is nothing.
	if got := impl.Trace(m, slices.Repeat([]int{1}, 3000)); len(got) != 3000 || !impl.EventsOk(got) {
		t.Errorf("%d", len(got))
	}
	for _, long := range []int{3001, 3002, 1 << 20} {
		for _, x := range []impl.Model{m, someModel(t), {}, {Out: make([]int, 401)}} {
			if got := impl.Trace(x, slices.Repeat([]int{1}, long)); len(got) != 0 {
				t.Errorf("%d: %d", long, len(got))
			}
		}
	}
	if got := impl.Trace(impl.Model{Out: make([]int, 401)}, slices.Repeat([]int{1}, 3000)); len(got) != 0 {
		t.Errorf("%d", len(got))
	}
}

func wantEventsOk(t *testing.T, list []impl.Event, right bool) {
	t.Helper()
	if impl.EventsOk(list) != right {
		t.Errorf("EventsOk of %d, %+v, is %v", len(list), list[:min(len(list), 3)], !right)
	}
}

func TestEventsOk(t *testing.T) {
	wantEventsOk(t, nil, true)
	wantEventsOk(t, []impl.Event{}, true)
	wantEventsOk(t, eventsOf("1; 1; 17 read 1.7; 2 join 1000000; 1000000 write 5.0; 3 enter 3; 3 enter 3; 4 exit 1; 9 start 9"), true)
	numbers := append(edgeNumbers(), 0, 1, 2, 5, 6, 7, 8, 9, 255, 999999, 1000000, 1000001, 1<<32+1, 1<<32+5)
	var counts [2]int
	for _, who := range numbers {
		for _, kind := range numbers {
			for _, id := range numbers {
				for _, at := range []int{math.MinInt, -1, 0, 1, 6, 7, 8, 1 << 32, math.MaxInt} {
					e := impl.Event{Who: who, Kind: kind, Id: id, At: at}
					right := eventRight(e)
					counts[flagVal(right).N]++
					wantEventsOk(t, []impl.Event{e}, right)
				}
			}
		}
	}
	if counts[0] < 20000 || counts[1] < 900 {
		t.Errorf("%v", counts)
	}
}

// Each number alone: what is met exactly, and what is passed by one.
func TestEventsOkOfItsLimits(t *testing.T) {
	for _, x := range []struct {
		right bool
		turn  func(e *impl.Event)
	}{
		{true, func(e *impl.Event) { e.Who = 1 }}, {false, func(e *impl.Event) { e.Who = 0 }}, {true, func(e *impl.Event) { e.Who = impl.MaxId }}, {false, func(e *impl.Event) { e.Who = impl.MaxId + 1 }},
		{true, func(e *impl.Event) { e.Kind = impl.EvElse }}, {false, func(e *impl.Event) { e.Kind = impl.EvElse - 1 }}, {true, func(e *impl.Event) { e.Kind = impl.EvJoin }}, {false, func(e *impl.Event) { e.Kind = impl.EvJoin + 1 }},
		{true, func(e *impl.Event) { e.Id = 0 }}, {false, func(e *impl.Event) { e.Id = -1 }}, {true, func(e *impl.Event) { e.Id = impl.MaxId }}, {false, func(e *impl.Event) { e.Id = impl.MaxId + 1 }},
		{true, func(e *impl.Event) { e.At = 0 }}, {false, func(e *impl.Event) { e.At = -1 }}, {true, func(e *impl.Event) { e.At = impl.MaxFields - 1 }}, {false, func(e *impl.Event) { e.At = impl.MaxFields }},
		{true, func(*impl.Event) {}},
	} {
		for _, told := range []string{"5", "5 read 6.1", "5 write 6.2", "5 enter 6", "5 exit 6", "5 start 6", "5 join 6"} {
			e := eventOf(told)
			x.turn(&e)
			wantEventsOk(t, []impl.Event{e}, x.right)
			// One of several counts, wherever it stands.
			for at := range 4 {
				list := eventsOf("1; 17 read 1.7; 2 join 1000000; 3 enter 3")
				list[at] = e
				wantEventsOk(t, list, x.right)
			}
		}
	}
	for _, told := range []string{"1", "17 read 1.7", "1000000 join 1000000"} {
		list := slices.Repeat(eventsOf(told), 3001)
		wantEventsOk(t, list[:2999], true)
		wantEventsOk(t, list[:3000], true)
		wantEventsOk(t, list, false)
		list[2999].Who = 0
		wantEventsOk(t, list[:3000], false)
		list[2999].Who = 1
		wantEventsOk(t, list[:3000], true)
	}
	wantEventsOk(t, make([]impl.Event, 1<<20), false)
	wantEventsOk(t, slices.Repeat(eventsOf("1"), 1<<20), false)
}

// Models of all sorts, with code that nobody has checked: each kind is met, and what is not done, too.
func TestEventsOfManyModels(t *testing.T) {
	t.Parallel()
	d := dice(183)
	base := dealtProg(t)
	var counts [7]int
	none := 0
	for range 120 {
		p := d.dealt(base)
		for range 8 {
			m := impl.Model{Prog: p, Memory: d.someMemory(p), Threads: d.someThreads(p), Out: make([]int, []int{0, 399, 400}[d.below(3)])}
			for range 6 {
				th := m.Threads[d.below(min(len(m.Threads), 5))]
				in, _, _ := impl.Now(p, th)
				switch hand, _ := impl.Hand(p, th); {
				case in.Op == impl.OpJoin && hand > 0 && threadAt(m, hand) < 0 && len(m.Threads) < 200:
					m.Threads = append(m.Threads, impl.Thread{Id: hand, State: 1 + d.below(5)})
				case d.below(2) == 0:
					m.Memory, _ = impl.Hold(m.Memory, hand, th.Id)
				}
				e, ok := wantEvent(t, m, th.Id)
				counts[e.Kind] += flagVal(ok).N
				none += flagVal(!ok).N
				m, _ = impl.Step(m, th.Id)
			}
		}
	}
	if slices.Min(counts[:]) < 8 || none < 500 {
		t.Errorf("%v, %d", counts, none)
	}
}

// A touchBook is what a step looks at and what it turns, beside its own thread.
type touchBook struct{ looks, turns []string }

// touchesOf wants a step that is done.
func touchesOf(m impl.Model, id int) touchBook {
	th := m.Threads[threadAt(m, id)]
	x, comes := nowThere(m.Prog, th)
	hand, _ := handThere(x, comes)
	e, _ := eventThere(m, id)
	object, thread := fmt.Sprint("object ", hand), fmt.Sprint("thread ", hand)
	b := touchBook{turns: []string{fmt.Sprint("thread ", id)}}
	switch op := x.in.Op; {
	case op == impl.OpNew:
		b.turns = append(b.turns, fmt.Sprint("object ", 16*id+th.Made+1))
	case op == impl.OpPrint:
		b.turns = append(b.turns, "what was printed")
	case hand == 0:
	case op == impl.OpGet:
		b.looks = []string{object, fmt.Sprintf("field %d.%d", e.Id, e.At)}
	case op == impl.OpPut:
		b.looks, b.turns = []string{object}, append(b.turns, fmt.Sprintf("field %d.%d", e.Id, e.At))
	case op == impl.OpEnter, op == impl.OpExit:
		b.looks, b.turns = []string{object}, append(b.turns, fmt.Sprint("monitor ", hand))
	case op == impl.OpCall:
		b.looks = []string{object}
	case op == impl.OpJoin:
		b.looks = []string{thread}
	case e.Kind == impl.EvStart:
		b.looks, b.turns = []string{object}, append(b.turns, thread, "how many threads there are")
	case op == impl.OpStart:
		b.looks = []string{object}
	}
	return b
}

// apart: neither turns what the other one looks at or turns.
func (b touchBook) apart(c touchBook) bool {
	meets := func(turns []string, other touchBook) bool {
		return slices.ContainsFunc(turns, func(s string) bool { return slices.Contains(other.looks, s) || slices.Contains(other.turns, s) })
	}
	return !meets(b.turns, c) && !meets(c.turns, b)
}

// wantEitherOrder: two steps that are done now, and touch nothing of each other, are the same events and end in the same model in either order.
func wantEitherOrder(t *testing.T, m impl.Model, a, b int) {
	t.Helper()
	first, _ := impl.EventOf(m, a)
	second, _ := impl.EventOf(m, b)
	one, oneCodes := impl.Run(m, []int{a, b})
	other, otherCodes := impl.Run(m, []int{b, a})
	if !sameModel(one, other) || !slices.Equal(oneCodes, otherCodes) || oneCodes[0] != impl.StDone || oneCodes[1] != impl.StDone {
		t.Fatalf("%+v: %d and %d in %s: %s, %v and %s, %v", m.Prog, a, b, tellModel(m), tellModel(one), oneCodes, tellModel(other), otherCodes)
	}
	there, back := impl.Trace(m, []int{a, b}), impl.Trace(m, []int{b, a})
	if !slices.Equal(there, []impl.Event{first, second}) || !slices.Equal(back, []impl.Event{second, first}) {
		t.Fatalf("%+v: %d and %d in %s: %s and %s", m.Prog, a, b, tellModel(m), tellEvents(there), tellEvents(back))
	}
}

// twoModel: thread 3 is ahead of one op, thread 4 ahead of another one, each with its own on the stack.
func twoModel(t *testing.T, first, firstStack, second, secondStack, locks string, others ...impl.Thread) impl.Model {
	t.Helper()
	one, other := oneFrame("@3 4", firstStack), oneFrame("@3 4", secondStack)
	other.Id, other.Frames[0].Pc = 4, 1
	m := impl.Model{Prog: threadProg(t, 2, first+"; "+second+"; push 0; return"), Memory: memoryOf(eventMemory + locks), Threads: append([]impl.Thread{one, other}, others...)}
	if !impl.ModelOk(m) {
		t.Fatalf("%s is not right", tellModel(m))
	}
	return m
}

// P18, by hand.
func TestStepsThatTouchNothingOfEachOther(t *testing.T) {
	for _, x := range []struct{ first, firstStack, second, secondStack, locks string }{
		{"put Main.n", "@8 1", "put Main.n", "@9 2", ""},
		{"put Main.n", "@9 1", "put Main.next", "@9 @9", ""},
		{"put Main.n", "@8 1", "get Main.next", "@8", ""},
		{"get Main.n", "@8", "get Main.n", "@8", ""},
		{"put Main.n", "@8 1", "enter", "@8", ""},
		{"put Main.n", "@8 1", "start", "@8", ""},
		{"enter", "@8", "enter", "@9", ""},
		{"enter", "@8", "exit", "@9", " 9 4 1"},
		{"exit", "@8", "exit", "@9", " 8 3 2; 9 4 1"},
		{"exit", "@8", "put Main.n", "@8 7", " 8 3 1"},
		{"enter", "@8", "join", "@8", ""},
		{"start", "@8", "enter", "@8", ""},
		{"start", "@8", "join", "@9", ""},
		{"start", "@8", "start", "@3", ""},
		{"start", "@8", "new Kid", "", ""},
		{"new Kid", "", "new Far", "", ""},
		{"new Kid", "", "print", "5", ""},
		{"print", "5", "put Main.n", "@8 5", ""},
		{"call Main.get", "@9", "call Main.get", "@9", ""},
		{"join", "@8", "join", "@8", ""},
		{"join", "@100", "join", "@100", ""},
		{"return", "5", "return", "6", ""},
		{"exit", "@8", "enter", "@9", ""},
		{"get Main.n", "@0", "put Main.n", "@0 5", ""},
	} {
		m := twoModel(t, x.first, x.firstStack, x.second, x.secondStack, x.locks, overThread(100, impl.TdEnd))
		if !touchesOf(m, 3).apart(touchesOf(m, 4)) {
			t.Errorf("%s and %s in %s touch each other", x.first, x.second, tellModel(m))
		}
		wantEitherOrder(t, m, 3, 4)
	}
}

// What does touch each other is not done in any order.
func TestStepsThatTouchEachOther(t *testing.T) {
	for _, x := range []struct{ first, firstStack, second, secondStack, locks, there, back string }{
		{"put Main.n", "@8 1", "put Main.n", "@8 2", "", "3 write 8.0; 4 write 8.0", "4 write 8.0; 3 write 8.0"},
		{"put Main.n", "@8 1", "get Main.n", "@8", "", "3 write 8.0; 4 read 8.0", "4 read 8.0; 3 write 8.0"},
		{"print", "1", "print", "2", "", "3; 4", "4; 3"},
		{"enter", "@8", "enter", "@8", "", "3 enter 8", "4 enter 8"},
		{"exit", "@8", "enter", "@8", " 8 3 1", "3 exit 8; 4 enter 8", "3 exit 8"},
		{"start", "@8", "start", "@8", "", "3 start 8; 4", "4 start 8; 3"},
		{"start", "@8", "start", "@9", "", "3 start 8; 4 start 9", "4 start 9; 3 start 8"},
		{"start", "@8", "join", "@8", "", "3 start 8", "4; 3 start 8"},
		{"return", "5", "join", "@3", "", "3; 4 join 3", "3"},
	} {
		m := twoModel(t, x.first, x.firstStack, x.second, x.secondStack, x.locks)
		there, back := wantTrace(t, m, []int{3, 4}), wantTrace(t, m, []int{4, 3})
		if tellEvents(there) != x.there || tellEvents(back) != x.back {
			t.Errorf("%s and %s: %s and %s", x.first, x.second, tellEvents(there), tellEvents(back))
		}
		one, _ := impl.Run(m, []int{3, 4})
		if other, _ := impl.Run(m, []int{4, 3}); sameModel(one, other) && x.first != "start" {
			t.Errorf("%s and %s: %s", x.first, x.second, tellModel(one))
		}
	}
}

// wantApart goes on with whichever thread, and asks ahead of each step for each pair of threads.
func (d *dice) wantApart(t *testing.T, p impl.Prog, counts *[7][7]int) {
	t.Helper()
	m := newModel(t, p)
	for range 60 {
		var able []int
		books := map[int]touchBook{}
		for _, th := range m.Threads[:min(len(m.Threads), 6)] {
			if _, ok := wantEvent(t, m, th.Id); ok {
				able = append(able, th.Id)
				books[th.Id] = touchesOf(m, th.Id)
			}
		}
		for i, a := range able {
			for _, b := range able[:i] {
				if books[a].apart(books[b]) {
					first, _ := eventThere(m, a)
					second, _ := eventThere(m, b)
					counts[min(first.Kind, second.Kind)][max(first.Kind, second.Kind)]++
					wantEitherOrder(t, m, a, b)
				}
			}
		}
		m, _ = impl.Step(m, m.Threads[min(d.below(len(m.Threads)), d.below(len(m.Threads)))].Id)
	}
}

// P18, of many programs that are checked, whichever thread goes on when.
func TestStepsOfManyProgramsInEitherOrder(t *testing.T) {
	t.Parallel()
	d := dice(184)
	base := lifeProg(t)
	var counts [7][7]int
	for lives := 0; lives < 50; {
		if p, ok := d.livingProg(base); ok {
			lives++
			d.wantApart(t, p, &counts)
		}
	}
	if slices.Min(counts[0][:6]) < 12 {
		t.Errorf("%v", counts)
	}
	both := 0
	for kind := 1; kind < 7; kind++ {
		for _, n := range counts[kind] {
			both += n
		}
	}
	if both < 12 {
		t.Errorf("%v", counts)
	}
}

// P18, of a whole order: wherever two that stand one behind the other touch nothing of each other, they may be changed.
func TestOrdersThatAreChanged(t *testing.T) {
	d := dice(185)
	m := newModel(t, progOf(t, meetText))
	changed := 0
	for range 30 {
		order := d.orderOf(90)
		want, _ := impl.Run(m, order)
		for i := range len(order) - 1 {
			now, _ := impl.Run(m, order[:i])
			a, b := order[i], order[i+1]
			_, first := eventThere(now, a)
			_, second := eventThere(now, b)
			if a == b || !first || !second || !touchesOf(now, a).apart(touchesOf(now, b)) {
				continue
			}
			changed++
			other := slices.Clone(order)
			other[i], other[i+1] = b, a
			if got, _ := impl.Run(m, other); !sameModel(got, want) {
				t.Fatalf("%v, changed at %d: %s in place of %s", order, i, tellModel(got), tellModel(want))
			}
			// Changed at once for what comes behind, too: the order goes on from here.
			order = other
		}
	}
	if changed < 100 {
		t.Errorf("%d", changed)
	}
}

// P33: what is far too much is answered, too.
func TestEventsOfModelsThatAreFarTooGreat(t *testing.T) {
	t.Parallel()
	for _, m := range modelsFarTooGreat(t) {
		wantNoEvent(t, m, 3)
	}
	if e, ok := impl.EventOf(greatModel(t), 3); !ok || e != (impl.Event{Who: 3}) {
		t.Error("EventOf", e)
	}
}

// tellHappenings: what the functions of this chapter answer to a model.
func tellHappenings(m impl.Model) string {
	var told strings.Builder
	for _, id := range []int{3, 4, 8, 10, 77, 0, -1} {
		e, ok := impl.EventOf(m, id)
		fmt.Fprintln(&told, id, e, ok, impl.EventsOk([]impl.Event{e}))
	}
	for _, order := range [][]int{nil, {3}, {3, 3, 3, 3}, {10, 3, 10, 3, 8}, make([]int, 3001)} {
		list := impl.Trace(m, order)
		fmt.Fprintln(&told, tellEvents(list), impl.EventsOk(list))
	}
	return told.String()
}

// P33.
func TestEventsWriteNoModel(t *testing.T) { wantModelsUnwritten(t, tellHappenings) }

// P33: neither an order nor a list of events is written, nor the room behind it; a trace shares no memory with another one.
func TestEventsWriteNoLists(t *testing.T) {
	for _, m := range append(modelsForMemory(t)[:60], newModel(t, progOf(t, meetText))) {
		order, whole := roomy([]int{3, 1, 10, 3, 1, 8}, 3)
		were := slices.Clone(whole)
		first, second := impl.Trace(m, order), impl.Trace(m, order)
		want := slices.Clone(second)
		spoilAll(first, impl.Event{Who: 55, Kind: 55})
		spoilAll(order[:0], 55)
		if !slices.Equal(second, want) {
			t.Fatalf("%s: %s", tellModel(m), tellEvents(second))
		}
		spoilAll(second, impl.Event{Who: 66, Kind: 66})
		copy(whole, were)
		if third := impl.Trace(m, order); !slices.Equal(third, want) || !slices.Equal(whole, were) {
			t.Fatalf("%s: %s, %v", tellModel(m), tellEvents(third), whole)
		}
	}
	for _, told := range []string{"", "1", "1; 17 read 1.7; 2 join 5", "1 write 3.1; 0; 4"} {
		list, whole := roomy(eventsOf(told), eventOf("0"))
		were := slices.Clone(whole)
		right := impl.EventsOk(list)
		if !slices.Equal(whole, were) || right != (told == "" || !slices.Contains(list, impl.Event{})) {
			t.Errorf("%q: %v, %v", told, right, whole)
		}
	}
}

func TestEventsKeepNothing(t *testing.T) { wantModelsToldAgain(t, tellHappenings) }
