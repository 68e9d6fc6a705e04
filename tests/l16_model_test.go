package tests

import (
	"fmt"
	"math"
	"slices"
	"strings"
	"testing"

	"loop.example/g00283/impl"
)

// tellModel: "1.0 5 @0 | 1 1 2 / 1 0.0:3 @1 0 | 5; made 0, state 0 / 7 8" is a memory, its threads, each behind its Id, and the words printed.
func tellModel(m impl.Model) string {
	var threads []string
	for _, th := range m.Threads {
		threads = append(threads, fmt.Sprint(th.Id, " ", tellThread(th)))
	}
	return fmt.Sprintf("%s / %s / %s", tellMemory(m.Memory), strings.Join(threads, ", "), strings.Trim(fmt.Sprint(m.Out), "[]"))
}

func sameModel(a, b impl.Model) bool {
	return sameProg(a.Prog, b.Prog) && sameMemory(a.Memory, b.Memory) && slices.EqualFunc(a.Threads, b.Threads, sameThread) && slices.Equal(a.Out, b.Out)
}

func cloneModel(m impl.Model) impl.Model {
	m.Prog, m.Memory, m.Threads, m.Out = cloneProg(m.Prog), cloneMemory(m.Memory), slices.Clone(m.Threads), slices.Clone(m.Out)
	for i, th := range m.Threads {
		m.Threads[i] = cloneThread(th)
	}
	return m
}

// modelRight tells by itself what ModelOk has to answer.
func modelRight(m impl.Model) bool {
	ids := map[int]bool{}
	for _, th := range m.Threads {
		if !threadRight(m.Prog, th) || ids[th.Id] {
			return false
		}
		ids[th.Id] = true
	}
	for _, n := range m.Out {
		if n != int(int32(n)) {
			return false
		}
	}
	return progRight(m.Prog) && memoryRight(m.Prog, m.Memory) && len(m.Threads) <= 200 && len(m.Out) <= 400
}

func threadAt(m impl.Model, id int) int {
	return slices.IndexFunc(m.Threads, func(th impl.Thread) bool { return th.Id == id })
}

func objectAt(m impl.Model, id int) int {
	return slices.IndexFunc(m.Memory.Objects, func(o impl.Object) bool { return o.Id == id })
}

// classThereOf is -1 of an object that is not there.
func classThereOf(m impl.Model, id int) int {
	if at := objectAt(m, id); at >= 0 {
		return m.Memory.Objects[at].Class
	}
	return -1
}

// waitsThere: what the memory, the other threads and the words printed have against a place that a thread could do by itself.
func waitsThere(m impl.Model, op, hand, id int) bool {
	switch op {
	case impl.OpEnter:
		return slices.ContainsFunc(m.Memory.Locks, func(l impl.Lock) bool { return l.Id == hand && (l.Who != id || l.Count == 1000) })
	case impl.OpJoin:
		return slices.ContainsFunc(m.Threads, func(th impl.Thread) bool { return th.Id == hand && th.State == 0 })
	case impl.OpPrint:
		return len(m.Out) == 400
	case impl.OpStart:
		return hand != 0 && len(m.Threads) == 200 && threadAt(m, hand) < 0
	}
	return false
}

// stepThere asks for all reasons not to go on first, and only then goes on.
func stepThere(m impl.Model, id int) (impl.Model, int) {
	out, at := cloneModel(m), threadAt(m, id)
	if !modelRight(m) || at < 0 {
		return out, 1
	}
	was := m.Threads[at]
	if was.State != 0 {
		return out, 2
	}
	x, comes := nowThere(m.Prog, was)
	hand, _ := handThere(x, comes)
	now, printed, does := localThere(x, comes, was, classThereOf(m, hand))
	if !does || waitsThere(m, x.in.Op, hand, id) {
		return out, 3
	}
	out.Threads[at] = now
	if now.State == 0 {
		x.didToMemory(&out, at, hand, was, printed)
	}
	return out, 0
}

// didToMemory wants a model whose thread at that place is behind the place already, and runs.
func (x threadBook) didToMemory(m *impl.Model, at, hand int, was impl.Thread, printed int) {
	book := memoryBook{m.Prog, map[int]impl.Object{}, map[int]impl.Lock{}}
	for _, o := range m.Memory.Objects {
		book.objects[o.Id] = o
	}
	for _, l := range m.Memory.Locks {
		book.locks[l.Id] = l
	}
	field := -1
	if k := progBook(m.Prog).number(x.refers.A); x.refers.B != "" && k >= 0 {
		field = fieldAt(m.Prog.Kinds[k].Fields, x.refers.B)
	}
	switch x.in.Op {
	case impl.OpNew:
		book.makes(16*was.Id+was.Made+1, progBook(m.Prog).number(x.refers.A))
	case impl.OpGet:
		v, _ := book.reads(hand, field)
		m.Threads[at] = giveThere(m.Threads[at], v)
	case impl.OpPut:
		book.writes(hand, field, x.frame.Stack[len(x.frame.Stack)-1])
	case impl.OpEnter:
		book.holds(hand, was.Id)
	case impl.OpExit:
		if !book.lets(hand, was.Id) {
			m.Threads[at] = cloneThread(was)
			m.Threads[at].State = impl.TdOwner
		}
	case impl.OpPrint:
		m.Out = append(m.Out, printed)
	case impl.OpStart:
		if th, ok := newThere(m.Prog, hand, classThereOf(*m, hand)); ok && threadAt(*m, hand) < 0 {
			m.Threads = append(m.Threads, th)
		}
	}
	m.Memory = book.memory()
}

// typesThere has the type of each value; false, where an object is not there.
func typesThere(m impl.Model, list []impl.Val) ([]impl.Type, bool) {
	var out []impl.Type
	for _, v := range list {
		switch class := classThereOf(m, v.N); {
		case !v.Ref:
			out = append(out, intType)
		case v.N == 0:
			out = append(out, nullType)
		case class < 0:
			return nil, false
		default:
			out = append(out, refType(class))
		}
	}
	return out, true
}

func safeThere(m impl.Model) bool {
	if !modelRight(m) {
		return false
	}
	for _, th := range m.Threads {
		if th.State != impl.TdRun {
			continue
		}
		f := th.Frames[len(th.Frames)-1]
		x := placeBook{m.Prog, f.Kind, f.Method}
		in := x.code().List[f.Pc]
		locals, first := typesThere(m, f.Locals)
		stack, second := typesThere(m, f.Stack)
		held := map[int]int{impl.OpExit: 1}[in.Op]
		if _, code := x.after(in, impl.Flow{Locals: locals, Stack: stack, Held: held}); !first || !second || code != 0 {
			return false
		}
	}
	return true
}

// wantStep holds Step, ModelOk and Safe against the test's own. P16: what was printed stays.
func wantStep(t *testing.T, m impl.Model, id int) (impl.Model, int) {
	t.Helper()
	want, code := stepThere(m, id)
	got, how := impl.Step(m, id)
	if how != code || !sameModel(got, want) {
		t.Fatalf("%+v: Step of %d in %s is %s, %d in place of %s, %d", m.Prog, id, tellModel(m), tellModel(got), how, tellModel(want), code)
	}
	if how != impl.StDone && !sameModel(got, m) || len(got.Out) < len(m.Out) || len(got.Out) > len(m.Out)+1 || !slices.Equal(got.Out[:len(m.Out)], m.Out) {
		t.Fatalf("%+v: Step of %d in %s is %s, %d", m.Prog, id, tellModel(m), tellModel(got), how)
	}
	if right := modelRight(got); impl.ModelOk(got) != right {
		t.Fatalf("%+v: ModelOk of %s is %v", got.Prog, tellModel(got), !right)
	}
	if safe := safeThere(got); impl.Safe(got) != safe {
		t.Fatalf("%+v: Safe of %s is %v", got.Prog, tellModel(got), !safe)
	}
	return got, how
}

func TestModelConstants(t *testing.T) {
	if impl.MaxThreads != 200 || impl.MaxOut != 400 || impl.MaxOrder != 3000 {
		t.Error("limits")
	}
	for i, code := range []int{impl.StDone, impl.StNone, impl.StOver, impl.StWait} {
		if code != i {
			t.Errorf("code %d is %d", i, code)
		}
	}
}

func newModel(t *testing.T, p impl.Prog) impl.Model {
	t.Helper()
	m, ok := impl.ModelNew(p)
	if !ok || !impl.ModelOk(m) || !impl.Safe(m) || !sameProg(m.Prog, p) {
		t.Fatalf("%+v: ModelNew is %s, %v", p, tellModel(m), ok)
	}
	return m
}

func TestModelNew(t *testing.T) {
	for _, x := range []struct{ text, told string }{
		{"class Main\nmethod run I 1\npush 0\nreturn\n", "1.0 | / 1 0.0:0 @1 | ; made 0, state 0 / "},
		{memoryText, "1.0 0 @0 | / 1 0.0:0 @1 | ; made 0, state 0 / "},
		{"class Main\nfield a I\nfield b Kid\nfield c Main\nmethod get I 1\npush 0\nreturn\nmethod run I 6\npush 0\nreturn\nclass Kid Main\nmethod run I 2\npush 0\nreturn\n", "1.0 0 @0 @0 | / 1 0.1:0 @1 0 0 0 0 0 | ; made 0, state 0 / "},
	} {
		if got := tellModel(newModel(t, progOf(t, x.text))); got != x.told {
			t.Errorf("ModelNew is %s in place of %s", got, x.told)
		}
	}
}

func wantNoModel(t *testing.T, p impl.Prog) {
	t.Helper()
	if got, ok := impl.ModelNew(p); ok || !sameModel(got, impl.Model{}) {
		t.Fatalf("%+v: ModelNew is %s, %v", p, tellModel(got), ok)
	}
}

func TestModelNewOfWrongPrograms(t *testing.T) {
	wantNoModel(t, impl.Prog{})
	for _, p := range append(wrongTurns(threadProg(t, 2, "push 1; return")), twistedProgs()...) {
		wantNoModel(t, p)
	}
	// One that is ProgOk, but not checked: by each code, in whichever class.
	for _, places := range []string{"add; return", "null; return", "load 5; return", "load 0; exit; push 0; return", "load 0; enter; push 0; return"} {
		p := runProg(t, 1, places)
		if !impl.ProgOk(p) {
			t.Errorf("%s is not ProgOk", places)
		}
		wantNoModel(t, p)
	}
	for _, text := range []string{
		"class Main\nmethod run I 1\npush 0\nreturn\nclass Kid\nmethod get I 1\nnull\nreturn\n",
		"class Main\nmethod run I 1\npush 0\nreturn\nmethod get I 1\nadd\nreturn\n",
		"class Main\nmethod run I 1\npush 0\nreturn\nclass Kid Main\nclass Far\nmethod run I 2\nload 1\nreturn\n",
	} {
		wantNoModel(t, progOf(t, text))
	}
}

func TestModelNewOfManyPrograms(t *testing.T) {
	t.Parallel()
	d := dice(160)
	base := walkProg(t)
	list := listTurns(threadProg(t, 2, "load 0; call Main.get; return"))
	for range 400 {
		if code := d.someRun(); codeRight(code) {
			list = append(list, withRun(base, code))
		}
		if p, how := impl.Link(d.someSet()); how == impl.LnDone {
			list = append(list, p)
		}
	}
	made := 0
	for _, p := range list {
		if code, _, _ := verifyThere(p); code != 0 {
			wantNoModel(t, p)
			continue
		}
		made++
		th, _ := newThere(p, 1, 0)
		want := impl.Model{Prog: p, Memory: impl.Memory{Objects: []impl.Object{{Id: 1, Fields: freshThere(p, 0)}}}, Threads: []impl.Thread{th}}
		if got := newModel(t, p); !sameModel(got, want) {
			t.Fatalf("%+v: ModelNew is %s in place of %s", p, tellModel(got), tellModel(want))
		}
	}
	if made < 200 || len(list)-made < 200 {
		t.Errorf("%d made of %d", made, len(list))
	}
}

// someModel is right: three threads of threadProg, of which one runs, among objects of each class that has a method run.
func someModel(t *testing.T) impl.Model {
	t.Helper()
	m := impl.Model{Prog: threadProg(t, 2, "push 0; return"), Memory: memoryOf("1.0 5 @2; 2.1 -7 @0 @4; 3.0 0 @0; 4.2 9 @2 @4; 7.3 | 2 3 1; 7 9 1000"), Out: []int{5, -1 << 31, 1<<31 - 1}}
	ended := deepThread(2)
	ended.Id, ended.State = 4, impl.TdNull
	m.Threads = []impl.Thread{deepThread(3), ended, {Id: 9, State: impl.TdEnd, Made: 15}}
	return m
}

func wantModelOk(t *testing.T, m impl.Model, what string) bool {
	t.Helper()
	right := modelRight(m)
	if impl.ModelOk(m) != right {
		t.Fatalf("%s: ModelOk of %s is %v", what, tellModel(m), !right)
	}
	if !right {
		wantNothingDone(t, m)
	}
	return right
}

// wantNothingDone: of a model that is not right nothing is done, of whichever thread, and it is not safe.
func wantNothingDone(t *testing.T, m impl.Model) {
	t.Helper()
	for _, id := range []int{0, 1, 3, 4, 9} {
		if got, how := impl.Step(m, id); how != impl.StNone || !sameModel(got, m) {
			t.Fatalf("Step of %d in %s is %s, %d", id, tellModel(m), tellModel(got), how)
		}
	}
	got, codes := impl.Run(m, []int{3, 1, 3})
	if !sameModel(got, m) || !slices.Equal(codes, []int{impl.StNone, impl.StNone, impl.StNone}) || impl.Safe(m) {
		t.Fatalf("Run in %s is %s, %v", tellModel(m), tellModel(got), codes)
	}
}

func TestModelOk(t *testing.T) {
	t.Parallel()
	var counts [2]int
	ask := func(what string, turn func(m *impl.Model)) {
		m := someModel(t)
		turn(&m)
		counts[flagVal(wantModelOk(t, m, what)).N]++
	}
	ask("as it is", func(*impl.Model) {})
	p := someModel(t).Prog
	for i, q := range append(append(wrongTurns(p), twistedProgs()[:40]...), impl.Prog{}) {
		if i%5 == 0 || len(q.Kinds) < 2 {
			ask("a program", func(m *impl.Model) { m.Prog = q })
		}
	}
	for _, q := range listTurns(p) {
		ask("a program's list", func(m *impl.Model) { m.Prog = q })
	}
	for _, memory := range turnedMemories(someModel(t).Memory) {
		ask("a memory", func(m *impl.Model) { m.Memory = memory })
	}
	for _, x := range append(rightThreadTurns(), wrongThreadTurns()...) {
		for at := range 3 {
			ask(x.what, func(m *impl.Model) {
				m.Threads = []impl.Thread{deepThread(1), {Id: 5, State: impl.TdEnd}, {Id: 6, State: impl.TdDeep}}
				m.Threads[at] = x.of(deepThread(3))
			})
		}
	}
	if counts[0] < 1000 || counts[1] < 300 {
		t.Errorf("%v", counts)
	}
}

// manyThreads have the Ids from first on, and are over.
func manyThreads(first, n int) []impl.Thread {
	list := make([]impl.Thread, n)
	for i := range n {
		list[i] = impl.Thread{Id: first + i, State: impl.TdEnd}
	}
	return list
}

func TestModelOkOfItsLimits(t *testing.T) {
	for _, x := range []struct {
		what  string
		right bool
		turn  func(m *impl.Model)
	}{
		{"no threads", true, func(m *impl.Model) { m.Threads = nil }},
		{"no memory", true, func(m *impl.Model) { m.Memory = impl.Memory{} }},
		{"nothing but a program", true, func(m *impl.Model) { *m = impl.Model{Prog: m.Prog} }},
		{"nothing", false, func(m *impl.Model) { *m = impl.Model{} }},
		{"no program", false, func(m *impl.Model) { m.Prog = impl.Prog{} }},
		{"MaxThreads", true, func(m *impl.Model) { m.Threads = manyThreads(1, 200) }},
		{"one thread more", false, func(m *impl.Model) { m.Threads = manyThreads(1, 201) }},
		{"one thread more, of one that is there", false, func(m *impl.Model) { m.Threads = append(manyThreads(1, 200), m.Threads[0]) }},
		{"the last two threads of one Id", false, func(m *impl.Model) { m.Threads = append(manyThreads(10, 150), manyThreads(159, 1)...) }},
		{"the first and the last thread of one Id", false, func(m *impl.Model) { m.Threads = append(manyThreads(10, 150), manyThreads(10, 1)...) }},
		{"two threads of one Id, one that runs", false, func(m *impl.Model) { m.Threads = []impl.Thread{deepThread(1), {Id: 3, State: impl.TdEnd}} }},
		{"Ids that do not ascend", true, func(m *impl.Model) { m.Threads = append(manyThreads(100, 9), deepThread(1)) }},
		{"a thread of no object", true, func(m *impl.Model) { m.Memory, m.Threads = impl.Memory{}, []impl.Thread{deepThread(8)} }},
		{"MaxOut", true, func(m *impl.Model) { m.Out = make([]int, 400) }},
		{"one printed more", false, func(m *impl.Model) { m.Out = make([]int, 401) }},
		{"the least word", true, func(m *impl.Model) { m.Out = []int{-1 << 31} }},
		{"the greatest word", true, func(m *impl.Model) { m.Out = []int{1<<31 - 1} }},
		{"what is no word", false, func(m *impl.Model) { m.Out = []int{1 << 31} }},
		{"what is no word, below", false, func(m *impl.Model) { m.Out = []int{0, -1<<31 - 1} }},
		{"what is no word, at the end", false, func(m *impl.Model) { m.Out = append(make([]int, 399), math.MaxInt) }},
	} {
		m := someModel(t)
		x.turn(&m)
		if wantModelOk(t, m, x.what) != x.right {
			t.Errorf("%s is not as this test wants it", x.what)
		}
	}
}

func TestThreadOf(t *testing.T) {
	m := someModel(t)
	for id, at := range map[int]int{3: 0, 4: 1, 9: 2, 1: -1, 2: -1, 0: -1, 10: -1} {
		if got := impl.ThreadOf(m, id); got != at {
			t.Errorf("ThreadOf %d is %d in place of %d", id, got, at)
		}
	}
	for _, id := range append(edgeNumbers(), 0, 1, impl.MaxId) {
		if impl.ThreadOf(m, id) != -1 || impl.ThreadOf(impl.Model{}, id) != -1 {
			t.Errorf("ThreadOf %d", id)
		}
	}
	// The first one of two, and of a number that is none, in a model that is not right.
	m = impl.Model{Threads: []impl.Thread{{Id: 8}, {Id: -3}, {Id: 8}, {Id: -3}, {Id: 0}}}
	for id, at := range map[int]int{8: 0, -3: 1, 0: 4, 1: -1} {
		if got := impl.ThreadOf(m, id); got != at {
			t.Errorf("ThreadOf %d is %d in place of %d", id, got, at)
		}
	}
}

// A move is a Step of a thread, its code, and what is told of the model then; "": as it was.
type move struct {
	id, how int
	told    string
}

// wantMoves goes on step by step, and asks of what was checked to be safe all along.
func wantMoves(t *testing.T, m impl.Model, list []move) impl.Model {
	t.Helper()
	for i, x := range list {
		was := m
		how := 0
		if m, how = wantStep(t, m, x.id); how != x.how || x.told != "" && tellModel(m) != x.told {
			t.Fatalf("%d: Step of %d in %s is %s, %d in place of %s, %d", i, x.id, tellModel(was), tellModel(m), how, x.told, x.how)
		}
		if x.told == "" && !sameModel(m, was) || !impl.Safe(m) {
			t.Fatalf("%d: %s", i, tellModel(m))
		}
	}
	return m
}

// P16: one thread, place by place, with fields of several classes, written and read, and calls of what the class of an object has.
func TestAModelFromItsBeginningToItsEnd(t *testing.T) {
	p := threadProg(t, 3, "new Far; store 1; load 1; push 7; put Main.n; load 0; load 1; put Main.next; load 0; get Main.next; call Main.get; print; load 1; get Kid.far; store 2; push 0; return")
	m := newModel(t, p)
	if got := tellModel(m); got != "1.0 0 @0 | / 1 0.0:0 @1 0 0 | ; made 0, state 0 / " {
		t.Fatal(got)
	}
	m = wantMoves(t, m, []move{
		{1, 0, "1.0 0 @0; 17.2 0 @0 @0 | / 1 0.0:1 @1 0 0 | @17; made 1, state 0 / "},
		{1, 0, "1.0 0 @0; 17.2 0 @0 @0 | / 1 0.0:2 @1 @17 0 | ; made 1, state 0 / "},
		{1, 0, "1.0 0 @0; 17.2 0 @0 @0 | / 1 0.0:3 @1 @17 0 | @17; made 1, state 0 / "},
		{17, 1, ""},
		{1, 0, "1.0 0 @0; 17.2 0 @0 @0 | / 1 0.0:4 @1 @17 0 | @17 7; made 1, state 0 / "},
		{1, 0, "1.0 0 @0; 17.2 7 @0 @0 | / 1 0.0:5 @1 @17 0 | ; made 1, state 0 / "},
		{1, 0, "1.0 0 @0; 17.2 7 @0 @0 | / 1 0.0:6 @1 @17 0 | @1; made 1, state 0 / "},
		{1, 0, "1.0 0 @0; 17.2 7 @0 @0 | / 1 0.0:7 @1 @17 0 | @1 @17; made 1, state 0 / "},
		{1, 0, "1.0 0 @17; 17.2 7 @0 @0 | / 1 0.0:8 @1 @17 0 | ; made 1, state 0 / "},
		{1, 0, "1.0 0 @17; 17.2 7 @0 @0 | / 1 0.0:9 @1 @17 0 | @1; made 1, state 0 / "},
		{1, 0, "1.0 0 @17; 17.2 7 @0 @0 | / 1 0.0:10 @1 @17 0 | @17; made 1, state 0 / "},
		{1, 0, "1.0 0 @17; 17.2 7 @0 @0 | / 1 0.0:11 @1 @17 0 | ; 1.1:0 @17 0 | ; made 1, state 0 / "},
		{1, 0, "1.0 0 @17; 17.2 7 @0 @0 | / 1 0.0:11 @1 @17 0 | ; 1.1:1 @17 0 | @17; made 1, state 0 / "},
		{1, 0, "1.0 0 @17; 17.2 7 @0 @0 | / 1 0.0:11 @1 @17 0 | ; 1.1:2 @17 0 | 7; made 1, state 0 / "},
		{1, 0, "1.0 0 @17; 17.2 7 @0 @0 | / 1 0.0:11 @1 @17 0 | ; 1.1:3 @17 0 | 7 5; made 1, state 0 / "},
		{1, 0, "1.0 0 @17; 17.2 7 @0 @0 | / 1 0.0:11 @1 @17 0 | ; 1.1:4 @17 0 | 12; made 1, state 0 / "},
		{1, 0, "1.0 0 @17; 17.2 7 @0 @0 | / 1 0.0:11 @1 @17 0 | 12; made 1, state 0 / "},
		{1, 0, "1.0 0 @17; 17.2 7 @0 @0 | / 1 0.0:12 @1 @17 0 | ; made 1, state 0 / 12"},
		{2, 1, ""},
		{1, 0, "1.0 0 @17; 17.2 7 @0 @0 | / 1 0.0:13 @1 @17 0 | @17; made 1, state 0 / 12"},
		{1, 0, "1.0 0 @17; 17.2 7 @0 @0 | / 1 0.0:14 @1 @17 0 | @0; made 1, state 0 / 12"},
		{1, 0, "1.0 0 @17; 17.2 7 @0 @0 | / 1 0.0:15 @1 @17 @0 | ; made 1, state 0 / 12"},
		{1, 0, "1.0 0 @17; 17.2 7 @0 @0 | / 1 0.0:16 @1 @17 @0 | 0; made 1, state 0 / 12"},
		{1, 0, "1.0 0 @17; 17.2 7 @0 @0 | / 1 ; made 1, state 1 / 12"},
		{1, 2, ""}, {1, 2, ""}, {0, 1, ""}, {-1, 1, ""}, {17, 1, ""},
	})
	if how := impl.ThreadOf(m, 17); how != -1 {
		t.Error(how)
	}
}

// meetText: two threads of Work, beside the first, go for the monitor of one Cell; the second one holds it twice.
const meetText = "class Main\nmethod run I 3\nnew Cell\nstore 1\nnew Work\ndup\nload 1\nput Work.cell\nstart\nnew Twice\nstore 2\nload 2\nload 1\nput Work.cell\nload 2\nstart\nload 2\njoin\npush 5\nprint\npush 0\nreturn\n" +
	"class Cell\nfield n I\n" +
	"class Work\nfield cell Cell\nmethod run I 2\nload 0\nget Work.cell\nenter\nload 0\nget Work.cell\nexit\npush 0\nreturn\n" +
	"class Twice Work\nmethod run I 1\nload 0\nget Work.cell\ndup\nenter\ndup\nenter\ndup\nexit\nexit\npush 0\nreturn\n"

// meetTold: the memory of meetText with those locks, and its three threads at those places with that on the stack; -1: it has ended.
func meetTold(locks string, first int, stack string, work int, workStack string, twice int, twiceStack string, out string) string {
	told := "1.0; 17.1 0; 18.2 @17; 19.3 @17 | " + locks
	at := func(frame string, pc int, locals, stack string, made int) string {
		if pc < 0 {
			return fmt.Sprintf("; made %d, state 1", made)
		}
		return fmt.Sprintf("%s:%d %s | %s; made %d, state 0", frame, pc, locals, stack, made)
	}
	return strings.TrimSpace(told) + " / 1 " + at("0.0", first, "@1 @17 @19", stack, 3) + ", 18 " + at("2.0", work, "@18 0", workStack, 0) + ", 19 " + at("3.0", twice, "@19", twiceStack, 0) + " / " + out
}

func TestThreadsThatMeet(t *testing.T) {
	m := newModel(t, progOf(t, meetText))
	for range 6 {
		m = wantMoves(t, m, []move{{18, 1, ""}, {19, 1, ""}})
		m, _ = wantStep(t, m, 1)
	}
	m = wantMoves(t, m, []move{{18, 1, ""}, {1, 0, "1.0; 17.1 0; 18.2 @17 | / 1 0.0:7 @1 @17 0 | ; made 2, state 0, 18 2.0:0 @18 0 | ; made 0, state 0 / "}})
	for range 7 {
		m, _ = wantStep(t, m, 1)
	}
	m = wantMoves(t, m, []move{
		{1, 0, meetTold("", 15, "@19", 0, "", 0, "", "")},
		// The first one waits for the second Work.
		{1, 3, ""},
		{18, 0, meetTold("", 15, "@19", 1, "@18", 0, "", "")},
		{18, 0, meetTold("", 15, "@19", 2, "@17", 0, "", "")},
		{19, 0, meetTold("", 15, "@19", 2, "@17", 1, "@19", "")},
		{19, 0, meetTold("", 15, "@19", 2, "@17", 2, "@17", "")},
		{19, 0, meetTold("", 15, "@19", 2, "@17", 3, "@17 @17", "")},
		{19, 0, meetTold("17 19 1", 15, "@19", 2, "@17", 4, "@17", "")},
		// The Work waits, however often it tries.
		{18, 3, ""}, {18, 3, ""}, {1, 3, ""},
		{19, 0, meetTold("17 19 1", 15, "@19", 2, "@17", 5, "@17 @17", "")},
		{19, 0, meetTold("17 19 2", 15, "@19", 2, "@17", 6, "@17", "")},
		{18, 3, ""},
		{19, 0, meetTold("17 19 2", 15, "@19", 2, "@17", 7, "@17 @17", "")},
		{19, 0, meetTold("17 19 1", 15, "@19", 2, "@17", 8, "@17", "")},
		// Once let go, it is still held.
		{18, 3, ""},
		{19, 0, meetTold("", 15, "@19", 2, "@17", 9, "", "")},
		{18, 0, meetTold("17 18 1", 15, "@19", 3, "", 9, "", "")},
		{19, 0, meetTold("17 18 1", 15, "@19", 3, "", 10, "0", "")},
		{1, 3, ""},
		{19, 0, meetTold("17 18 1", 15, "@19", 3, "", -1, "", "")},
		{19, 2, ""},
		// It is over: who waits for it goes on.
		{1, 0, meetTold("17 18 1", 16, "", 3, "", -1, "", "")},
		{1, 0, meetTold("17 18 1", 17, "5", 3, "", -1, "", "")},
		{18, 0, meetTold("17 18 1", 17, "5", 4, "@18", -1, "", "")},
		{18, 0, meetTold("17 18 1", 17, "5", 5, "@17", -1, "", "")},
		{18, 0, meetTold("", 17, "5", 6, "", -1, "", "")},
		{1, 0, meetTold("", 18, "", 6, "", -1, "", "5")},
		{18, 0, meetTold("", 18, "", 7, "0", -1, "", "5")},
		{1, 0, meetTold("", 19, "0", 7, "0", -1, "", "5")},
		{1, 0, meetTold("", -1, "", 7, "0", -1, "", "5")},
		{18, 0, meetTold("", -1, "", -1, "", -1, "", "5")},
		{1, 2, ""}, {18, 2, ""}, {19, 2, ""}, {17, 1, ""},
	})
}

// opModel: thread 3, of one frame, is ahead of an op with that on the stack, in that memory, which has object 3; other threads stand behind.
func opModel(t *testing.T, op, stack, memory string, others ...impl.Thread) impl.Model {
	t.Helper()
	return impl.Model{Prog: opProg(t, op), Memory: memoryOf(memory), Threads: append([]impl.Thread{oneFrame("@3 4", stack)}, others...)}
}

// overThread is one of an object, in that state; one that runs is ahead of a place.
func overThread(id, state int) impl.Thread {
	th := oneFrame("@3 4", "")
	th.Id, th.State = id, state
	return th
}

// wantOne: one Step of thread 3, its code, and what is told then of the memory, of thread 3 and of how many threads there are; "": as it was.
func wantOne(t *testing.T, m impl.Model, how int, memory, thread string, threads int) impl.Model {
	t.Helper()
	if !impl.ModelOk(m) {
		t.Fatalf("%s is not right", tellModel(m))
	}
	got, code := wantStep(t, m, 3)
	if memory == "" {
		memory = tellMemory(m.Memory)
	}
	if thread == "" {
		thread = tellThread(m.Threads[0])
	}
	if code != how || tellMemory(got.Memory) != memory || tellThread(got.Threads[0]) != thread || len(got.Threads) != threads {
		t.Errorf("Step of 3 in %s is %s, %d in place of %s / %s, %d", tellModel(m), tellModel(got), code, memory, thread, how)
	}
	return got
}

// behind is thread 3 at the next place, with that on the stack.
func behind(stack string) string { return fmt.Sprintf("0.0:1 @3 4 | %s; made 0, state 0", stack) }

// ended is thread 3 in a state, all else as it was.
func ended(stack string, state int) string {
	return fmt.Sprintf("0.0:0 @3 4 | %s; made 0, state %d", stack, state)
}

const twoObjects = "3.0 0 @0; 8.1 -7 @3 @0 |"

func TestWhoWaitsForAMonitor(t *testing.T) {
	for _, x := range []struct {
		locks string
		how   int
		told  string
	}{
		{"", 0, " 8 3 1"}, {" 3 3 1", 0, " 3 3 1; 8 3 1"}, {" 3 4 1000", 0, " 3 4 1000; 8 3 1"},
		{" 8 3 1", 0, " 8 3 2"}, {" 8 3 998", 0, " 8 3 999"}, {" 8 3 999", 0, " 8 3 1000"}, {" 8 3 1000", 3, " 8 3 1000"},
		{" 8 4 1", 3, " 8 4 1"}, {" 8 4 1000", 3, " 8 4 1000"}, {" 8 1000000 1", 3, " 8 1000000 1"}, {" 3 3 1; 8 8 1", 3, " 3 3 1; 8 8 1"},
	} {
		m := opModel(t, "enter", "1 @8", twoObjects+x.locks, overThread(4, impl.TdEnd))
		thread := behind("1")
		if x.how == impl.StWait {
			thread = ""
		}
		wantOne(t, m, x.how, twoObjects+x.told, thread, 2)
	}
	// It is let go, and then it is had.
	m := opModel(t, "enter", "@8", twoObjects+" 8 4 1")
	m = wantOne(t, m, impl.StWait, "", "", 1)
	m.Memory, _ = impl.Unlock(m.Memory, 8, 4)
	wantOne(t, m, impl.StDone, twoObjects+" 8 3 1", behind(""), 1)
	// What is not there has no monitor that another one could hold.
	m = opModel(t, "enter", "@9", twoObjects+" 8 4 1")
	wantOne(t, m, impl.StDone, "", behind(""), 1)
}

func TestWhoWaitsForAThread(t *testing.T) {
	for state := impl.TdRun; state <= impl.TdRoom; state++ {
		m := opModel(t, "join", "1 @8", twoObjects, overThread(5, impl.TdRun), overThread(8, state), overThread(9, impl.TdRun))
		if state == impl.TdRun {
			wantOne(t, m, impl.StWait, "", "", 4)
		} else {
			wantOne(t, m, impl.StDone, "", behind("1"), 4)
		}
	}
	// What was not started, what is not there, and the thread itself.
	wantOne(t, opModel(t, "join", "@8", twoObjects, overThread(5, impl.TdRun)), impl.StDone, "", behind(""), 2)
	wantOne(t, opModel(t, "join", "@9", twoObjects), impl.StDone, "", behind(""), 1)
	wantOne(t, opModel(t, "join", "@9", twoObjects, overThread(9, impl.TdRun)), impl.StWait, "", "", 2)
	wantOne(t, opModel(t, "join", "@3", twoObjects), impl.StWait, "", "", 1)
}

func TestWhoWaitsToPrint(t *testing.T) {
	for _, stack := range []string{"5", "-2147483648", "@8", "@0", "@77"} {
		last := valsOf(stack)[0].N
		for many := range 401 {
			if many%50 != 0 && many != 399 && many != 1 {
				continue
			}
			m := opModel(t, "print", stack, twoObjects)
			for i := range many {
				m.Out = append(m.Out, i)
			}
			if many == 400 {
				wantOne(t, m, impl.StWait, "", "", 1)
				continue
			}
			if got := wantOne(t, m, impl.StDone, "", behind(""), 1); len(got.Out) != many+1 || got.Out[many] != last {
				t.Errorf("%v", got.Out)
			}
		}
	}
	// With MaxOut printed all else is done.
	for _, op := range []string{"push 1", "new Kid", "get Main.n", "enter", "exit", "start", "join", "return", "pop"} {
		m := opModel(t, op, "@8", twoObjects)
		m.Out = make([]int, 400)
		if got, how := wantStep(t, m, 3); how != impl.StDone || len(got.Out) != 400 {
			t.Errorf("%s with MaxOut printed: %s, %d", op, tellModel(got), how)
		}
	}
}

// startMemory has objects of each class: a thread is there of a Main (8), a Kid (9) and a Far (10) only.
const startMemory = "3.0 0 @0; 8.0 0 @0; 9.1 0 @0 @0; 10.2 0 @0 @0; 11.3; 12.4; 13.5 |"

func TestWhoStarts(t *testing.T) {
	for id, told := range map[int]string{8: "0.0:0 @8 0 | ; made 0, state 0", 9: "0.0:0 @9 0 | ; made 0, state 0", 10: "2.0:0 @10 0 0 0 | ; made 0, state 0"} {
		m := opModel(t, "start", "1 "+tellVals([]impl.Val{refVal(id)}), startMemory, overThread(700, impl.TdRun), overThread(2, impl.TdEnd))
		got := wantOne(t, m, impl.StDone, "", behind("1"), 4)
		if last := got.Threads[len(got.Threads)-1]; last.Id != id || tellThread(last) != told {
			t.Errorf("%d: %d %s", id, last.Id, tellThread(last))
		}
		if !sameThread(got.Threads[1], m.Threads[1]) || !sameThread(got.Threads[2], m.Threads[2]) {
			t.Errorf("%s", tellModel(got))
		}
		// It has a thread, in whatever state: none begins, and it goes on.
		for state := impl.TdRun; state <= impl.TdRoom; state++ {
			m := opModel(t, "start", tellVals([]impl.Val{refVal(id)}), startMemory, overThread(id, state))
			if got := wantOne(t, m, impl.StDone, "", behind(""), 2); !sameThread(got.Threads[1], m.Threads[1]) {
				t.Errorf("%s", tellModel(got))
			}
		}
	}
	// No run; one with another Result; one with Params; an object that is not there, even where class 0 has a run; the thread's own object.
	for _, id := range []int{11, 12, 13, 1, 77, impl.MaxId, 3} {
		m := opModel(t, "start", tellVals([]impl.Val{refVal(id)}), startMemory, overThread(5, impl.TdRun))
		wantOne(t, m, impl.StDone, "", behind(""), 2)
	}
}

func TestWhoStartsAmongManyThreads(t *testing.T) {
	for many := 197; many <= 200; many++ {
		others := manyThreads(100, many-1)
		// Objects without a thread, of which 11 is of a class that has no run, and 77 is not there.
		for _, id := range []int{8, 9, 10, 11, 12, 13, 77} {
			m := opModel(t, "start", tellVals([]impl.Val{refVal(id)}), startMemory, others...)
			switch {
			case many == 200:
				wantOne(t, m, impl.StWait, "", "", 200)
			case id <= 10:
				if got := wantOne(t, m, impl.StDone, "", behind(""), many+1); got.Threads[many].Id != id {
					t.Errorf("%d is started in place of %d", got.Threads[many].Id, id)
				}
			default:
				wantOne(t, m, impl.StDone, "", behind(""), many)
			}
		}
		// Of one that has a thread, and of null, nobody waits.
		for _, id := range []int{3, 100, 100 + many - 2} {
			wantOne(t, opModel(t, "start", tellVals([]impl.Val{refVal(id)}), startMemory, others...), impl.StDone, "", behind(""), many)
		}
		wantOne(t, opModel(t, "start", "@0", startMemory, others...), impl.StDone, "", ended("@0", impl.TdNull), many)
		// Nor for anything else.
		wantOne(t, opModel(t, "pop", "@0", startMemory, others...), impl.StDone, "", behind(""), many)
	}
}

// A thread whose place does not come, or can't be done, waits, in a model that is right, but not safe.
func TestWhoWaitsAtAPlaceThatIsNotDone(t *testing.T) {
	for _, x := range []struct{ op, stack string }{
		{"add", "5"}, {"pop", ""}, {"return", ""}, {"print", ""}, {"call Main.put", "@8 5"}, {"put Main.n", "5"},
		{"get Main.n", "5"}, {"put Main.n", "5 5"}, {"enter", "8"}, {"exit", "8"}, {"start", "8"}, {"join", "8"}, {"call Main.get", "0"}, {"load 2", ""}, {"store 5", "8"},
	} {
		m := opModel(t, x.op, x.stack, twoObjects)
		wantOne(t, m, impl.StWait, "", "", 1)
		if impl.Safe(m) {
			t.Errorf("%s is safe", tellModel(m))
		}
	}
	for n := range impl.MaxPool {
		for _, op := range []int{impl.OpConst, impl.OpNew, impl.OpGet, impl.OpPut, impl.OpCall} {
			m := impl.Model{Prog: constProg(t, op, n), Memory: memoryOf(twoObjects), Threads: []impl.Thread{oneFrame("@3 4", "@8 @8")}}
			if _, _, comes := impl.Now(m.Prog, m.Threads[0]); !comes {
				wantOne(t, m, impl.StWait, "", "", 1)
			}
		}
	}
}

func TestWhatEndsAtNull(t *testing.T) {
	for _, x := range handCases {
		for _, below := range []string{"", "7 ", "@8 "} {
			stack := below + "@0" + x.above
			wantOne(t, opModel(t, x.op, stack, "3.0 0 @0; 8.1 -7 @3 @0; 9.1 0 @0 @0 | 8 3 1"), impl.StDone, "", ended(stack, impl.TdNull), 1)
		}
	}
}

func TestWhatEndsWithTheLastFrame(t *testing.T) {
	for _, stack := range []string{"5", "1 @8", "@0"} {
		m := opModel(t, "return", stack, twoObjects+" 8 3 2", overThread(8, impl.TdRun))
		wantOne(t, m, impl.StDone, "", "; made 0, state 1", 2)
		// With a frame below it is not over.
		m.Threads[0] = deepThread(2)
		m.Threads[0].Frames[1] = oneFrame("@3 4", stack).Frames[0]
		got := wantOne(t, m, impl.StDone, "", fmt.Sprintf("0.0:0 @3 0 | 7 @4 %s; made 0, state 0", tellVals(valsOf(stack)[len(valsOf(stack))-1:])), 2)
		if got.Threads[0].State != impl.TdRun {
			t.Error(tellModel(got))
		}
	}
}

// OpExit of a monitor that it does not hold: all else of the thread is as it was, of the memory, too.
func TestWhatEndsAsNoOwner(t *testing.T) {
	for _, x := range []struct{ stack, locks string }{
		{"@8", ""}, {"1 @8", " 3 3 1"}, {"@8", " 8 4 1"}, {"@8 @8", " 8 8 1000"}, {"@3", " 8 3 1"}, {"@9", " 8 3 1"}, {"@1000000", ""}, {"1 2 3 4 5 @8", " 3 3 5; 8 1 1"},
	} {
		m := opModel(t, "exit", x.stack, twoObjects+x.locks, overThread(4, impl.TdRun))
		wantOne(t, m, impl.StDone, "", ended(x.stack, impl.TdOwner), 2)
		m.Threads[0] = deepThread(3)
		m.Threads[0].Made = 7
		m.Threads[0].Frames[2] = oneFrame("@3 4", x.stack).Frames[0]
		want := cloneThread(m.Threads[0])
		want.State = impl.TdOwner
		wantOne(t, m, impl.StDone, "", tellThread(want), 2)
	}
	// One that it holds once, twice, and as often as it may.
	for _, x := range []struct{ locks, told string }{{" 8 3 1", ""}, {" 8 3 2", " 8 3 1"}, {" 8 3 1000", " 8 3 999"}, {" 3 4 1; 8 3 1", " 3 4 1"}, {" 3 3 9; 8 3 4", " 3 3 9; 8 3 3"}} {
		wantOne(t, opModel(t, "exit", "1 @8", twoObjects+x.locks), impl.StDone, twoObjects+x.told, behind("1"), 1)
	}
}

func TestWhatEndsTooDeep(t *testing.T) {
	for frames := 2; frames <= 8; frames++ {
		m := opModel(t, "call Main.get", "1 @8", twoObjects)
		m.Threads[0] = deepThread(frames)
		m.Threads[0].Frames[frames-1] = oneFrame("@3 4", "1 @8").Frames[0]
		got, how := wantStep(t, m, 3)
		want := cloneThread(m.Threads[0])
		want.State = impl.TdDeep
		if how != impl.StDone || (got.Threads[0].State == impl.TdDeep) != (frames == 8) || frames == 8 && !sameThread(got.Threads[0], want) || !sameMemory(got.Memory, m.Memory) {
			t.Errorf("%d frames: %s, %d", frames, tellModel(got), how)
		}
	}
	// From its beginning on, by itself: the last frame that there may be calls once more.
	m := newModel(t, threadProg(t, 1, "load 0; call Main.run; return"))
	for n := range 16 {
		how := 0
		if m, how = wantStep(t, m, 1); how != impl.StDone || !impl.Safe(m) || (m.Threads[0].State == impl.TdDeep) != (n == 15) {
			t.Fatalf("%d: %s, %d", n, tellModel(m), how)
		}
	}
	if len(m.Threads[0].Frames) != 8 {
		t.Errorf("%s", tellModel(m))
	}
	wantMoves(t, m, []move{{1, 2, ""}})
}

func TestWhatEndsWithoutRoom(t *testing.T) {
	m := opModel(t, "new Kid", "", twoObjects)
	m.Threads[0].Made = 15
	wantOne(t, m, impl.StDone, "", "0.0:0 @3 4 | ; made 15, state 5", 1)
	m.Threads[0].Made = 14
	wantOne(t, m, impl.StDone, "3.0 0 @0; 8.1 -7 @3 @0; 63.1 0 @0 @0 |", "0.0:1 @3 4 | @63; made 15, state 0", 1)
	for id, object := range map[int]string{62499: "; 999985.1 0 @0 @0", 62500: "", impl.MaxId: ""} {
		m := opModel(t, "new Kid", "", twoObjects)
		m.Threads[0].Id = id
		got, how := wantStep(t, m, id)
		if told := tellMemory(got.Memory); how != impl.StDone || told != "3.0 0 @0; 8.1 -7 @3 @0"+object+" |" || (got.Threads[0].State == impl.TdRoom) != (object == "") {
			t.Errorf("%d: %s, %d", id, tellModel(got), how)
		}
	}
	// All that there are, from the beginning on: each is another object.
	m = newModel(t, threadProg(t, 1, "new Kid; pop; goto 0"))
	for n := 1; n <= 15; n++ {
		for range 3 {
			m, _ = wantStep(t, m, 1)
		}
		if len(m.Memory.Objects) != n+1 || m.Memory.Objects[n].Id != 16+n {
			t.Fatalf("%s", tellModel(m))
		}
	}
	wantMoves(t, m, []move{{1, 0, strings.Replace(tellModel(m), "state 0", "state 5", 1)}, {1, 2, ""}})
}

// The class of what is at hand is that of the object; where the object is not there, no class has any method.
func TestCallsGoByTheObject(t *testing.T) {
	const memory = "3.0 0 @0; 8.1 -7 @3 @0; 9.2 0 @0 @0; 10.3; 11.5 |"
	for stack, frame := range map[string]string{"@3": "0.1:0 @3", "@8": "1.1:0 @8 0", "@9": "1.1:0 @9 0", "@11": "5.2:0 @11 0 0 0 0 0"} {
		wantOne(t, opModel(t, "call Main.get", stack, memory), impl.StDone, "", "0.0:1 @3 4 | ; "+frame+" | ; made 0, state 0", 1)
	}
	for _, stack := range []string{"@10", "@77", "@1000000"} {
		wantOne(t, opModel(t, "call Main.get", stack, memory), impl.StDone, "", ended(stack, impl.TdNull), 1)
	}
}

func TestWhatIsMade(t *testing.T) {
	for op, object := range map[string]string{"new Main": "49.0 0 @0", "new Kid": "49.1 0 @0 @0", "new Far": "49.2 0 @0 @0", "new Lone": "49.3", "new Bent": "49.5"} {
		wantOne(t, opModel(t, op, "1", twoObjects), impl.StDone, "3.0 0 @0; 8.1 -7 @3 @0; "+object+" |", "0.0:1 @3 4 | 1 @49; made 1, state 0", 1)
		// Ahead of and between others; locks stay.
		wantOne(t, opModel(t, op, "", "3.3; 60.1 -7 @3 @0 | 3 4 5"), impl.StDone, "3.3; "+object+"; 60.1 -7 @3 @0 | 3 4 5", "0.0:1 @3 4 | @49; made 1, state 0", 1)
		wantOne(t, opModel(t, op, "", "50.3"), impl.StDone, object+"; 50.3 |", "0.0:1 @3 4 | @49; made 1, state 0", 1)
		// In code that was not checked: without room for it on the stack, and where there is one of that number.
		wantOne(t, opModel(t, op, "1 2 3 4 5 6", twoObjects), impl.StDone, "3.0 0 @0; 8.1 -7 @3 @0; "+object+" |", "0.0:1 @3 4 | 1 2 3 4 5 6; made 1, state 0", 1)
		wantOne(t, opModel(t, op, "", "3.3; 49.1 -7 @3 @0 | 49 4 5"), impl.StDone, "3.3; 49.1 -7 @3 @0 | 49 4 5", "0.0:1 @3 4 | @49; made 1, state 0", 1)
	}
	// A number for each that it made already.
	m := opModel(t, "new Lone", "", twoObjects)
	m.Threads[0].Made = 9
	wantOne(t, m, impl.StDone, "3.0 0 @0; 8.1 -7 @3 @0; 58.3 |", "0.0:1 @3 4 | @58; made 10, state 0", 1)
}

const fieldMemory = "3.0 5 @8; 8.1 -7 @3 @9; 9.2 2147483647 @0 @9; 10.3; 12.3 | 8 4 2"

func TestFieldsAreRead(t *testing.T) {
	for _, x := range []struct{ op, stack, told string }{
		{"get Main.n", "@3", "5"}, {"get Main.next", "@3", "@8"}, {"get Main.n", "1 @8", "1 -7"}, {"get Main.next", "@8", "@3"}, {"get Kid.far", "@8", "@9"},
		{"get Kid.n", "@9", "2147483647"}, {"get Far.next", "@9", "@0"}, {"get Far.far", "1 2 3 4 5 @9", "1 2 3 4 5 @9"}, {"get Kid.n", "@3", "5"},
		// Of an object that is not there, or has no such field, a word 0 is put: so Read tells.
		{"get Main.n", "1 @7", "1 0"}, {"get Main.next", "@7", "0"}, {"get Main.n", "@10", "0"}, {"get Main.next", "1 @12", "1 0"}, {"get Kid.far", "@3", "0"},
	} {
		wantOne(t, opModel(t, x.op, x.stack, fieldMemory), impl.StDone, "", behind(x.told), 1)
	}
}

func TestFieldsAreWritten(t *testing.T) {
	for _, x := range []struct{ op, stack, memory, left string }{
		{"put Main.n", "@3 6", "3.0 6 @8; 8.1 -7 @3 @9; 9.2 2147483647 @0 @9; 10.3; 12.3 | 8 4 2", ""},
		{"put Main.next", "1 @3 @0", "3.0 5 @0; 8.1 -7 @3 @9; 9.2 2147483647 @0 @9; 10.3; 12.3 | 8 4 2", "1"},
		{"put Main.n", "@8 -2147483648", "3.0 5 @8; 8.1 -2147483648 @3 @9; 9.2 2147483647 @0 @9; 10.3; 12.3 | 8 4 2", ""},
		{"put Kid.far", "1 2 3 4 @8 @8", "3.0 5 @8; 8.1 -7 @3 @8; 9.2 2147483647 @0 @9; 10.3; 12.3 | 8 4 2", "1 2 3 4"},
		{"put Far.far", "@9 @77", "3.0 5 @8; 8.1 -7 @3 @9; 9.2 2147483647 @0 @77; 10.3; 12.3 | 8 4 2", ""},
		// What is not there, or has no such field, stays.
		{"put Main.n", "@7 6", fieldMemory, ""}, {"put Main.n", "1 @10 6", fieldMemory, "1"}, {"put Kid.far", "@3 @9", fieldMemory, ""}, {"put Main.n", "@7 @6", fieldMemory, ""},
	} {
		wantOne(t, opModel(t, x.op, x.stack, fieldMemory), impl.StDone, x.memory, behind(x.left), 1)
	}
}

// Code that was not checked may write what the field's type is not: it is written, and nothing is done any more, as the memory is not right.
func TestFieldsAreWrittenWrong(t *testing.T) {
	for _, x := range []struct{ op, stack, memory string }{
		{"put Main.n", "@3 @6", "3.0 @6 @8; 8.1 -7 @3 @9; 9.2 2147483647 @0 @9; 10.3; 12.3 | 8 4 2"},
		{"put Main.next", "@8 0", "3.0 5 @8; 8.1 -7 0 @9; 9.2 2147483647 @0 @9; 10.3; 12.3 | 8 4 2"},
		{"put Kid.far", "@9 7", "3.0 5 @8; 8.1 -7 @3 @9; 9.2 2147483647 @0 7; 10.3; 12.3 | 8 4 2"},
	} {
		m := opModel(t, x.op, x.stack, fieldMemory, overThread(8, impl.TdRun))
		if impl.Safe(m) {
			t.Errorf("%s is safe", tellModel(m))
		}
		got := wantOne(t, m, impl.StDone, x.memory, behind(""), 2)
		if impl.ModelOk(got) {
			t.Errorf("%s is right", tellModel(got))
		}
		wantNothingDone(t, got)
		wantRun(t, m, []int{8, 3, 3, 8, 9})
		if _, codes := impl.Run(m, []int{8, 3, 3, 8, 9}); !slices.Equal(codes[1:], []int{impl.StDone, impl.StNone, impl.StNone, impl.StNone}) {
			t.Errorf("%v", codes)
		}
	}
}

// Step of a thread that there is not, of one that is over, and of each in a model that is not right: it is as it was.
func TestStepOfNone(t *testing.T) {
	m := opModel(t, "push 1", "", twoObjects, overThread(8, impl.TdEnd), overThread(5, impl.TdNull), overThread(6, impl.TdOwner), overThread(7, impl.TdDeep), overThread(9, impl.TdRoom))
	for _, id := range append(edgeNumbers(), 0, 1, 2, 4, 17, impl.MaxId, impl.MaxId+1, 1<<32+3) {
		if got, how := wantStep(t, m, id); how != impl.StNone || !sameModel(got, m) {
			t.Errorf("Step of %d is %s, %d", id, tellModel(got), how)
		}
	}
	for _, id := range []int{8, 5, 6, 7, 9} {
		if got, how := wantStep(t, m, id); how != impl.StOver || !sameModel(got, m) {
			t.Errorf("Step of %d is %s, %d", id, tellModel(got), how)
		}
	}
	// What is not right counts ahead of what is over, and ahead of what waits.
	m.Out = make([]int, 401)
	wantNothingDone(t, m)
	m.Out, m.Threads[5].Made = nil, 16
	wantNothingDone(t, m)
	m.Threads[5].Made, m.Memory.Locks = 0, []impl.Lock{{Id: 3, Who: 3, Count: 1001}}
	wantNothingDone(t, m)
	wantNothingDone(t, impl.Model{})
}

// wantRun: Run is Step of each, one behind the other.
func wantRun(t *testing.T, m impl.Model, order []int) impl.Model {
	t.Helper()
	want := m
	var codes []int
	for _, id := range order {
		var how int
		want, how = stepThere(want, id)
		codes = append(codes, how)
	}
	got, told := impl.Run(m, order)
	if !sameModel(got, want) || !slices.Equal(told, codes) {
		t.Fatalf("%+v: Run of %v in %s is %s, %v in place of %s, %v", m.Prog, order, tellModel(m), tellModel(got), told, tellModel(want), codes)
	}
	return got
}

// orderOf is so long; it has the threads of meetText, and some that there are not.
func (d *dice) orderOf(long int) []int {
	list := make([]int, long)
	for i := range list {
		list[i] = []int{1, 1, 18, 18, 19, 19, 19, 17, 0}[d.below(9)]
	}
	return list
}

// Run of an order is as Run of its two halves, one behind the other, wherever it is cut.
func TestRun(t *testing.T) {
	d := dice(161)
	m := newModel(t, progOf(t, meetText))
	var counts [4]int
	for range 60 {
		order := d.orderOf(70 + d.below(40))
		want := wantRun(t, m, order)
		_, codes := impl.Run(m, order)
		for _, how := range codes {
			counts[how]++
		}
		for _, cut := range []int{0, 1, d.below(len(order)), len(order) / 2, len(order) - 1, len(order)} {
			half, first := impl.Run(m, order[:cut])
			got, second := impl.Run(half, order[cut:])
			if !sameModel(got, want) || !slices.Equal(slices.Concat(first, second), codes) || !impl.Safe(half) {
				t.Fatalf("%v, cut at %d: %s", order, cut, tellModel(got))
			}
		}
	}
	if slices.Min(counts[:]) < 50 {
		t.Errorf("%v", counts)
	}
	wantRun(t, m, nil)
	wantRun(t, m, []int{})
	wantRun(t, m, edgeNumbers())
}

func TestRunOfLongOrders(t *testing.T) {
	d := dice(162)
	m := newModel(t, progOf(t, meetText))
	ending := "1.0; 17.1 0; 18.2 @17; 19.3 @17 | / 1 ; made 3, state 1, 18 ; made 0, state 1, 19 ; made 0, state 1 / 5"
	for _, long := range []int{2999, 3000} {
		order := d.orderOf(long)
		got, codes := impl.Run(m, order)
		if tellModel(got) != ending || len(codes) != long || !sameProg(got.Prog, m.Prog) {
			t.Errorf("%d: %s, %d codes", long, tellModel(got), len(codes))
		}
		whole, _ := impl.Run(m, order[:400])
		if tellModel(whole) != ending || !slices.Equal(codes[long-2:], codesOfOver(order[long-2:])) {
			t.Errorf("%d: %s", long, tellModel(whole))
		}
	}
	// One more: as it was, and nothing.
	for _, long := range []int{3001, 3002, 1 << 20} {
		for _, was := range []impl.Model{m, someModel(t), {}, {Out: make([]int, 401)}} {
			if got, codes := impl.Run(was, d.orderOf(long)); !sameModel(got, was) || len(codes) != 0 {
				t.Errorf("%d: %s, %d codes", long, tellModel(got), len(codes))
			}
		}
	}
	// Of what is not right nothing is done, of as many as may be.
	if got, codes := impl.Run(impl.Model{Out: make([]int, 401)}, d.orderOf(3000)); !sameModel(got, impl.Model{Out: make([]int, 401)}) || !slices.Equal(codes, slices.Repeat([]int{impl.StNone}, 3000)) {
		t.Errorf("%s, %d codes", tellModel(got), len(codes))
	}
}

// codesOfOver: of meetText, where all its threads are over.
func codesOfOver(order []int) []int {
	var codes []int
	for _, id := range order {
		codes = append(codes, map[int]int{1: impl.StOver, 18: impl.StOver, 19: impl.StOver, 17: impl.StNone, 0: impl.StNone}[id])
	}
	return codes
}

// Whichever thread goes on when: what is guarded by one monitor is counted right.
func TestRunCountsWhatIsGuarded(t *testing.T) {
	p := progOf(t, "class Main\nmethod run I 4\nnew Cell\nstore 1\nnew Work\nstore 2\nload 2\nload 1\nput Work.cell\nload 2\nstart\nnew Work\nstore 3\nload 3\nload 1\nput Work.cell\nload 3\nstart\nload 2\njoin\nload 3\njoin\nload 1\nget Cell.n\nprint\npush 0\nreturn\n"+
		"class Cell\nfield n I\nclass Work\nfield cell Cell\nmethod run I 3\npush 3\nstore 1\nload 1\nzero 22\nload 0\nget Work.cell\nenter\nload 0\nget Work.cell\ndup\nget Cell.n\npush 1\nadd\nput Cell.n\nload 0\nget Work.cell\nexit\nload 1\npush 1\nsub\nstore 1\ngoto 2\npush 0\nreturn\n")
	m := newModel(t, p)
	d := dice(163)
	for range 50 {
		order := make([]int, 3000)
		for i := range order {
			order[i] = []int{1, 18, 19}[d.below(3)]
		}
		if got, _ := impl.Run(m, order); !slices.Equal(got.Out, []int{6}) || len(got.Memory.Locks) != 0 || got.Threads[0].State != impl.TdEnd {
			t.Fatalf("%s", tellModel(got))
		}
	}
}

func wantSafe(t *testing.T, m impl.Model, safe bool) {
	t.Helper()
	if safeThere(m) != safe || impl.Safe(m) != safe {
		t.Errorf("Safe of %s is %v", tellModel(m), impl.Safe(m))
	}
}

// One thread at a place, with values that are right for it, and with values that are not.
func TestSafe(t *testing.T) {
	const memory = "3.0 5 @8; 8.1 -7 @3 @9; 9.2 0 @0 @9; 10.3 | 8 3 1"
	for _, x := range []struct {
		op          string
		safe, wrong []string
	}{
		{"push 1", []string{"", "5 @8 @0", "1 2 3 4 5"}, []string{"1 2 3 4 5 6", "@7", "@7 1"}},
		{"load 1", []string{"", "@9"}, []string{"1 2 3 4 5 6", "@1"}},
		{"store 1", []string{"5", "@8", "@0"}, []string{"", "@7"}},
		{"add", []string{"1 2", "@8 1 2"}, []string{"", "1", "1 @8", "@8 1", "1 @0", "@0 @0"}},
		{"same", []string{"@8 @0", "@0 @0", "@8 @10"}, []string{"@8", "@8 0", "0 @8", "1 1", "@8 @7"}},
		{"zero 0", []string{"0"}, []string{"", "@0", "@8"}},
		{"print", []string{"5"}, []string{"", "@0", "@8"}},
		{"new Kid", []string{"", "1 2 3 4 5"}, []string{"1 2 3 4 5 6", "@7"}},
		{"get Main.n", []string{"@3", "@8", "@9", "@0"}, []string{"", "@10", "5", "@7", "@7 @3"}},
		{"get Kid.far", []string{"@8", "@9", "@0"}, []string{"@3", "@10"}},
		{"put Main.n", []string{"@3 5", "@9 5", "@0 5"}, []string{"5", "@3", "@3 @3", "@10 5", "5 @3", "@7 5"}},
		{"put Main.next", []string{"@3 @8", "@3 @9", "@3 @0", "@0 @0"}, []string{"@3 @3", "@3 5", "@3 @10", "@3 @7"}},
		{"call Main.put", []string{"@3 5 @8", "@9 5 @0", "@0 5 @9"}, []string{"5 @8", "@3 5 @3", "@3 @8 5", "@10 5 @8", "@3 @0 @8"}},
		{"enter", []string{"@3", "@0", "@10"}, []string{"", "5", "@7"}},
		{"exit", []string{"@3", "@8", "@0", "@10"}, []string{"", "5", "@7"}},
		{"start", []string{"@3", "@0", "@10"}, []string{"", "5", "@7"}},
		{"join", []string{"@3", "@0", "@10"}, []string{"", "5", "@7"}},
		{"return", []string{"5", "@8 5"}, []string{"", "@8", "@0"}},
		{"pop", []string{"5", "@0"}, []string{"", "@7"}},
		{"dup", []string{"5", "1 2 3 4 @8"}, []string{"", "1 2 3 4 5 6", "@7"}},
		{"goto 0", []string{"", "1 2 3 4 5 6"}, []string{"@7"}},
		{"load 2", nil, []string{"", "5"}},
	} {
		for _, stack := range x.safe {
			wantSafe(t, opModel(t, x.op, stack, memory), true)
		}
		for _, stack := range x.wrong {
			m := opModel(t, x.op, stack, memory)
			wantSafe(t, m, false)
			// One that is over is safe, whatever it has.
			for state := impl.TdEnd; state <= impl.TdRoom; state++ {
				m.Threads[0].State = state
				wantSafe(t, m, true)
			}
			// One of several is enough.
			m.Threads = append(manyThreads(100, 5), opModel(t, x.op, stack, memory).Threads[0], overThread(8, impl.TdEnd))
			wantSafe(t, m, false)
		}
	}
}

// A local that is not there is not safe, also where it is not loaded; what is in a frame below does not count.
func TestSafeOfLocalsAndFrames(t *testing.T) {
	const memory = "3.0 5 @8; 8.1 -7 @3 @9; 9.2 0 @0 @9; 10.3 | 8 3 1"
	m := opModel(t, "push 1", "", memory)
	for locals, safe := range map[string]bool{"@3 4": true, "@3 @9": true, "4 5": true, "@0 @0": true, "@7 4": false, "@3 @7": false, "@1000000 4": false} {
		m.Threads[0] = oneFrame(locals, "")
		wantSafe(t, m, safe)
	}
	for _, frames := range []int{2, 3, 8} {
		deep := deepThread(frames)
		deep.Frames[0].Stack, deep.Frames[0].Locals = valsOf("@7 1 @7"), valsOf("@7 @7")
		deep.Frames[frames-1] = oneFrame("@3 4", "").Frames[0]
		m.Threads[0] = deep
		wantSafe(t, m, true)
		deep.Frames[frames-1] = oneFrame("@3 @7", "").Frames[0]
		wantSafe(t, m, false)
	}
	// No threads, and none that runs; no object that there is.
	m.Threads = nil
	wantSafe(t, m, true)
	m.Threads = manyThreads(1, 200)
	wantSafe(t, m, true)
	m.Threads[199] = oneFrame("4 5", "")
	m.Memory = impl.Memory{}
	wantSafe(t, m, false)
	m.Threads[199].Id = 500
	wantSafe(t, m, true)
}

// Safe asks of OpExit what is held by what is known, not by the memory: it is one there, and none at all other places.
func TestSafeOfWhatIsHeld(t *testing.T) {
	for _, locks := range []string{"", " 8 3 1", " 8 4 1", " 8 3 1000"} {
		wantSafe(t, opModel(t, "exit", "@8", twoObjects+locks), true)
		wantSafe(t, opModel(t, "enter", "@8", twoObjects+locks), true)
		wantSafe(t, opModel(t, "return", "5", twoObjects+locks), true)
	}
	wantSafe(t, impl.Model{Prog: threadProg(t, 2, "load 0; enter; push 0; return"), Memory: memoryOf(twoObjects)}, true)
}

// rightVal is a value for a field of that type.
func (d *dice) rightVal(of string) impl.Val {
	for {
		if v := d.someVal(); v.Ref == (of != "I") {
			return v
		}
	}
}

// someMemory is right, with most of the objects that someVal tells of, and some monitors held by those that someThread tells of.
func (d *dice) someMemory(p impl.Prog) impl.Memory {
	var m impl.Memory
	for _, id := range []int{1, 2, 3, 4, 5, 6, 7, 8, 9, 17, 33, 49, 62500, impl.MaxId} {
		if d.below(5) == 0 {
			continue
		}
		class := d.below(len(p.Kinds))
		o := impl.Object{Id: id, Class: class}
		for _, f := range p.Kinds[class].Fields {
			o.Fields = append(o.Fields, d.rightVal(f.Type))
		}
		m.Objects = append(m.Objects, o)
		if d.below(3) == 0 {
			m.Locks = append(m.Locks, impl.Lock{Id: id, Who: []int{1, 2, 3, 17}[d.below(4)], Count: []int{1, 1, 2, 999, 1000}[d.below(5)]})
		}
	}
	return m
}

// someThreads are right, and each of another Id; most run.
func (d *dice) someThreads(p impl.Prog) []impl.Thread {
	var list []impl.Thread
	for range 1 + d.below(4) {
		if th := d.someThread(p); !slices.ContainsFunc(list, func(other impl.Thread) bool { return other.Id == th.Id }) {
			list = append(list, th)
		}
	}
	if d.below(16) == 0 {
		list = append(list, manyThreads(500, 200-len(list))...)
	}
	return list
}

// Models of all sorts, with code that nobody has checked: what the test's own tells; each op is done, waits, and ends a thread where it can.
func TestStepsOfManyModels(t *testing.T) {
	t.Parallel()
	d := dice(164)
	base := dealtProg(t)
	var done, waited, over [25]int
	safe, wrong := 0, 0
	for range 150 {
		p := d.dealt(base)
		for range 10 {
			m := impl.Model{Prog: p, Memory: d.someMemory(p), Threads: d.someThreads(p), Out: make([]int, []int{0, 1, 399, 400}[d.below(4)])}
			if !impl.ModelOk(m) {
				t.Fatalf("%+v: %s", p, tellModel(m))
			}
			for range 6 {
				at := d.below(min(len(m.Threads), 5))
				in, _, _ := impl.Now(p, m.Threads[at])
				if hand, _ := impl.Hand(p, m.Threads[at]); d.below(3) == 0 {
					m.Memory, _ = impl.Hold(m.Memory, hand, m.Threads[at].Id)
				}
				got, how := wantStep(t, m, m.Threads[at].Id)
				switch {
				case how == impl.StWait:
					waited[in.Op]++
				case how == impl.StDone && got.Threads[at].State > impl.TdEnd:
					over[in.Op]++
				case how == impl.StDone:
					done[in.Op]++
				}
				safe += flagVal(impl.Safe(got)).N
				wrong += flagVal(!impl.ModelOk(got)).N
				m = got
			}
		}
	}
	for op := impl.OpPush; op <= impl.OpLess; op++ {
		if done[op] < 15 {
			t.Errorf("op %d is done %d times", op, done[op])
		}
		if slices.Contains(handedOps, op) && over[op] < 3 {
			t.Errorf("op %d is over %d times", op, over[op])
		}
	}
	for _, op := range []int{impl.OpEnter, impl.OpPrint, impl.OpStart, impl.OpJoin, impl.OpLoad, impl.OpAdd} {
		if waited[op] < 10 {
			t.Errorf("op %d waits %d times", op, waited[op])
		}
	}
	if safe < 300 || wrong < 10 || over[impl.OpNew] < 50 || over[impl.OpExit] < 50 {
		t.Errorf("%d safe, %d wrong, %v", safe, wrong, over)
	}
}

// lifeProg has classes whose threads go on with the code of run, to be given places: that of Main, which Kid and Twin have, too, and that of Far.
func lifeProg(t *testing.T) impl.Prog {
	t.Helper()
	p := progOf(t, "class Main\nfield n I\nfield next Kid\nmethod run I 4\npush 0\nreturn\nmethod get I 1\nload 0\nget Main.n\nreturn\n"+
		"method set Main 3 I Kid\nload 0\nenter\nload 0\nload 1\nput Main.n\nload 0\nload 2\nput Main.next\nload 0\nexit\nload 0\nreturn\n"+
		"class Kid Main\nfield far Far\nmethod own Kid 1\nload 0\nreturn\nmethod get I 2\nload 0\nenter\nload 0\ndup\nget Main.n\npush 1\nadd\nput Main.n\nload 0\nget Main.n\nstore 1\nload 0\nexit\nload 1\nreturn\n"+
		"class Far Kid\nmethod run I 4\npush 0\nreturn\nmethod own Kid 2\nnew Far\nstore 1\nload 1\nload 0\nput Main.next\nload 1\nreturn\nclass Twin Main\n")
	pool := []impl.Const{classConst("Main"), classConst("Kid"), classConst("Far"), classConst("Twin"), fieldConst("Main", "n"), fieldConst("Main", "next"), fieldConst("Kid", "far"), callConst("Main", "get"), callConst("Kid", "own"), callConst("Main", "set"), intConst(70000)}
	for k := range p.Kinds {
		for m, code := range p.Kinds[k].Methods {
			for at, in := range code.List {
				switch in.Op {
				case impl.OpConst, impl.OpNew, impl.OpGet, impl.OpPut, impl.OpCall:
					p.Kinds[k].Methods[m].List[at].N = slices.Index(pool, p.Kinds[code.Owner].Pool[in.N])
				}
			}
		}
	}
	for k := range 3 {
		p.Kinds[k].Pool = slices.Clone(pool)
	}
	return p
}

// lifeDeed leaves the stack, what is held and what is known of the locals as they were: 1 has a Main, 2 a Kid, 3 a word.
func (d *dice) lifeDeed(deeds int) []impl.Ins {
	op := func(op int, n ...int) impl.Ins { return ins(op, append(n, 0)[0]) }
	some := op(impl.OpLoad, d.below(3))
	kid := op(impl.OpLoad, 2)
	word := [][]impl.Ins{{push(d.below(256) - 128)}, {op(impl.OpConst, 10)}, {op(impl.OpLoad, 3)}, {some, op(impl.OpGet, 4)}, {some, op(impl.OpCall, 7)}, {some, kid, op(impl.OpSame)}}[d.below(6)]
	object := [][]impl.Ins{{op(impl.OpNew, 1+d.below(2))}, {op(impl.OpNew, 1)}, {op(impl.OpNull)}, {some, op(impl.OpGet, 5)}, {kid, op(impl.OpGet, 6)}, {kid, op(impl.OpCall, 8)}, {op(impl.OpNull)}, {kid}}[d.below(8)]
	switch d.below(23) {
	case 0, 1:
		return append(word, op(impl.OpStore, 3))
	case 2, 3:
		return append(object, op(impl.OpStore, 2))
	case 4:
		return []impl.Ins{op(impl.OpNew, []int{0, 3}[d.below(2)]), op(impl.OpStore, 1)}
	case 5:
		return append(slices.Concat([]impl.Ins{some}, object), op(impl.OpPut, 5))
	case 6, 7:
		return append(slices.Concat([]impl.Ins{some}, word), op(impl.OpPut, 4))
	case 8:
		return slices.Concat([]impl.Ins{some}, word, object, []impl.Ins{op(impl.OpCall, 9), op(impl.OpStore, 1)})
	case 9, 10:
		return []impl.Ins{some, op(impl.OpStart)}
	case 11:
		return []impl.Ins{some, op(impl.OpJoin)}
	case 12:
		return append(word, op(impl.OpPrint))
	case 13, 17, 18, 19:
		// Here and there what is let go is another one than what was entered.
		again := []impl.Ins{some, some, op(impl.OpLoad, d.below(3))}[d.below(3)]
		return slices.Concat([]impl.Ins{some, op(impl.OpEnter), some, op(impl.OpEnter), some, op(impl.OpExit)}, word, []impl.Ins{op(impl.OpPrint), again, op(impl.OpExit)})
	case 14:
		return append(word, ins(impl.OpZero, d.below(deeds)))
	case 15, 20, 21:
		return slices.Concat(word, []impl.Ins{op(impl.OpDup)}, word, []impl.Ins{bare([]int{impl.OpAdd, impl.OpSub, impl.OpMul, impl.OpLess}[d.below(4)]), op(impl.OpStore, 3), op(impl.OpPop)})
	case 16:
		return append(object, op(impl.OpPop))
	}
	return []impl.Ins{jump(d.below(deeds))}
}

// someLife puts something into each local, and goes on with deeds of which some jump to each other.
func (d *dice) someLife() []impl.Ins {
	deeds := [][]impl.Ins{
		{ins(impl.OpNew, d.below(4)), ins(impl.OpStore, 1)}, {ins(impl.OpNew, 1+d.below(2)), ins(impl.OpStore, 2)}, {push(d.below(3)), ins(impl.OpStore, 3)},
		{ins(impl.OpLoad, 1+d.below(2)), ins(impl.OpLoad, 2), ins(impl.OpPut, 5)}, {ins(impl.OpLoad, 1), bare(impl.OpEnter), ins(impl.OpLoad, 1), bare(impl.OpStart), push(5), bare(impl.OpPrint), ins(impl.OpLoad, 1), bare(impl.OpExit)},
		{ins(impl.OpLoad, 0), bare(impl.OpEnter), ins(impl.OpLoad, 0), bare(impl.OpExit)},
	}[:4+d.below(3)]
	many := 8 + d.below(6)
	for len(deeds) < many-1 {
		deeds = append(deeds, d.lifeDeed(many))
	}
	deeds = append(deeds, [][]impl.Ins{{push(0), ret()}, {jump(3 + d.below(many-3))}}[d.below(2)])
	var begins []int
	var list []impl.Ins
	for _, deed := range deeds {
		begins = append(begins, len(list))
		list = append(list, deed...)
	}
	for i, in := range list {
		if isJump(in.Op) {
			list[i].N = begins[in.N]
		}
	}
	return list
}

// livingProg is checked.
func (d *dice) livingProg(base impl.Prog) (impl.Prog, bool) {
	p := cloneProg(base)
	for _, k := range []int{0, 2} {
		list := d.someLife()
		if !codeRight(list) {
			return p, false
		}
		withCode(p, k, "run", list)
	}
	code, _, _ := impl.Verify(p)
	return p, code == impl.VrDone
}

// knownBook has what Flows tells of each method of each class.
type knownBook map[[2]int][]impl.Flow

func knownOf(p impl.Prog) knownBook {
	book := knownBook{}
	for _, x := range eachMethod(p) {
		book[[2]int{x.k, x.m}], _, _, _ = impl.Flows(p, x.k, x.m)
	}
	return book
}

// wantKnown asks for P13 of a thread that runs: what is known at the place of each frame holds, of the Owner's class and of that of the object; it
// tells of how many monitors are held by what is known. A frame below others is at the place behind its call, whose Result is still to come.
func (book knownBook) wantKnown(t *testing.T, m impl.Model, th impl.Thread) int {
	t.Helper()
	held := 0
	for i, f := range th.Frames {
		locals, first := typesThere(m, f.Locals)
		stack, second := typesThere(m, f.Stack)
		if i < len(th.Frames)-1 {
			above := th.Frames[i+1]
			stack = append(stack, impl.TypeOf(m.Prog, m.Prog.Kinds[above.Kind].Methods[above.Method].Result))
		}
		told := book[[2]int{f.Kind, f.Method}][f.Pc]
		flow := impl.Flow{Locals: locals, Stack: stack, Held: told.Held}
		of := classThereOf(m, f.Locals[0].N)
		for _, k := range []int{f.Kind, of} {
			if known := book[[2]int{k, f.Method}][f.Pc]; !first || !second || !knowsMore(m.Prog, flow, known) {
				t.Fatalf("%+v: %s: %+v at frame %d of %d, where %+v is known of class %d", m.Prog, tellModel(m), flow, i, th.Id, known, k)
			}
		}
		if i == len(th.Frames)-1 && !impl.Sound(m.Prog, of, f.Method, f.Pc, flow) {
			t.Fatalf("%+v: %s: %+v at %d is not sound", m.Prog, tellModel(m), flow, th.Id)
		}
		held += told.Held
	}
	return held
}

// wantHeldAsKnown: P13 holds of a thread, if it runs, and it holds as many monitors as is known.
func (book knownBook) wantHeldAsKnown(t *testing.T, m impl.Model, th impl.Thread) {
	t.Helper()
	if th.State != impl.TdRun {
		return
	}
	held := book.wantKnown(t, m, th)
	for _, l := range m.Memory.Locks {
		if l.Who == th.Id {
			held -= l.Count
		}
	}
	if held != 0 {
		t.Fatalf("%+v: %s: %d holds other than is known", m.Prog, tellModel(m), th.Id)
	}
}

// A lifeCount is what was met in many runs of what was checked.
type lifeCount struct {
	done, waited [25]int
	states       [6]int
	threads      int
	deep         int
}

// wantLife goes on with whichever thread: P16 and P13 hold at each step, a thread waits only for others, and nothing is done that the test's own does not tell.
func (d *dice) wantLife(t *testing.T, p impl.Prog, counts *lifeCount) {
	t.Helper()
	m, book := newModel(t, p), knownOf(p)
	var order []int
	for range 110 {
		at := min(d.below(len(m.Threads)), d.below(len(m.Threads)))
		id := m.Threads[at].Id
		got, how := wantStep(t, m, id)
		if !safeThere(got) || how == impl.StNone {
			t.Fatalf("%+v: behind a Step of %d in %s it is not safe: %s, %d", p, id, tellModel(m), tellModel(got), how)
		}
		var in impl.Ins
		if how != impl.StOver {
			last := m.Threads[at].Frames[len(m.Threads[at].Frames)-1]
			in = p.Kinds[last.Kind].Methods[last.Method].List[last.Pc]
		}
		if hand, _ := impl.Hand(p, m.Threads[at]); how == impl.StWait && !waitsThere(m, in.Op, hand, id) {
			t.Fatalf("%+v: %d in %s waits for nobody", p, id, tellModel(m))
		}
		// Nothing turns at the other threads; of those that were started the last one is new.
		book.wantHeldAsKnown(t, got, got.Threads[at])
		book.wantHeldAsKnown(t, got, got.Threads[len(got.Threads)-1])
		counts.deep += flagVal(len(got.Threads[at].Frames) > 1).N
		counts.done[in.Op] += flagVal(how == impl.StDone).N
		counts.waited[in.Op] += flagVal(how == impl.StWait).N
		m, order = got, append(order, id)
	}
	for _, th := range m.Threads {
		counts.states[th.State]++
	}
	counts.threads += len(m.Threads)
	if got, _ := impl.Run(newModel(t, p), order); !sameModel(got, m) {
		t.Fatalf("%+v: Run of %v is %s in place of %s", p, order, tellModel(got), tellModel(m))
	}
}

// P16 and P13, of many programs that are checked, whichever thread goes on when.
func TestWhatIsCheckedIsSafe(t *testing.T) {
	t.Parallel()
	d := dice(165)
	base := lifeProg(t)
	var counts lifeCount
	lives := 0
	for lives < 110 {
		if p, ok := d.livingProg(base); ok {
			lives++
			d.wantLife(t, p, &counts)
		}
	}
	for op := impl.OpPush; op <= impl.OpPop; op++ {
		if counts.done[op] < 5 {
			t.Errorf("op %d is done %d times", op, counts.done[op])
		}
	}
	if slices.Min(counts.states[:4]) < 3 || counts.waited[impl.OpEnter] < 10 || counts.waited[impl.OpJoin] < 100 || counts.threads < 200 || counts.deep < 500 {
		t.Errorf("%+v", counts)
	}
}

// P16, of one thread each: whatever Link makes of what is checked, and one that is one turn away from what is.
func TestWhatIsLinkedAndCheckedIsSafe(t *testing.T) {
	t.Parallel()
	d := dice(166)
	var list []impl.Prog
	base := walkProg(t)
	for range 300 {
		if code := d.someRun(); codeRight(code) {
			list = append(list, withRun(base, code))
		}
		if p, how := impl.Link(d.someSet()); how == impl.LnDone {
			list = append(list, p)
		}
	}
	list = append(list, listTurns(threadProg(t, 3, "new Far; store 1; load 1; push 7; put Main.n; load 1; call Main.get; return"))...)
	checked, steps := 0, 0
	for _, p := range list {
		if code, _, _ := impl.Verify(p); code != impl.VrDone {
			continue
		}
		checked++
		book := knownOf(p)
		m, how := newModel(t, p), impl.StDone
		for n := 0; n < 60 && how == impl.StDone; n++ {
			m, how = wantStep(t, m, 1)
			if !impl.Safe(m) || how == impl.StWait && len(m.Out) < 400 {
				t.Fatalf("%+v: %s, %d", p, tellModel(m), how)
			}
			book.wantHeldAsKnown(t, m, m.Threads[0])
			steps++
		}
	}
	if checked < 200 || steps < 2000 {
		t.Errorf("%d checked, %d steps", checked, steps)
	}
}

// P16: what was printed stays, up to MaxOut words; then who prints waits, and others go on.
func TestWhatWasPrintedStays(t *testing.T) {
	m := newModel(t, progOf(t, "class Main\nmethod run I 2\nnew Kid\nstart\npush 0\nstore 1\nload 1\nprint\nload 1\npush 1\nadd\nstore 1\ngoto 4\nclass Kid\nmethod run I 1\npush 0\npop\ngoto 0\n"))
	m, _ = impl.Run(m, []int{1, 1, 1, 1})
	for n := range 400 {
		var how int
		for k := range 7 {
			was := m
			if m, how = impl.Step(m, 1); how != impl.StDone || !slices.Equal(m.Out[:len(was.Out)], was.Out) || len(m.Out) != n+flagVal(k > 0).N || len(m.Out) > n && m.Out[n] != n {
				t.Fatalf("%d: %s, %d", n, tellModel(m), how)
			}
		}
		if !impl.Safe(m) {
			t.Fatalf("%s", tellModel(m))
		}
	}
	m, _ = wantStep(t, m, 1)
	for range 3 {
		was := m
		how := 0
		if m, how = wantStep(t, m, 1); how != impl.StWait || !sameModel(m, was) {
			t.Fatalf("%s, %d", tellModel(m), how)
		}
		if m, how = wantStep(t, m, 17); how != impl.StDone || !impl.Safe(m) {
			t.Fatalf("%s, %d", tellModel(m), how)
		}
	}
	m.Out = m.Out[:399]
	if got, how := wantStep(t, m, 1); how != impl.StDone || len(got.Out) != 400 || got.Out[399] != 400 {
		t.Errorf("%s, %d", tellModel(got), how)
	}
}

// Threads that each start two more, up to MaxThreads.
func TestThreadsUpToMaxThreads(t *testing.T) {
	t.Parallel()
	m := newModel(t, progOf(t, "class Main\nmethod run I 1\nnew Main\nstart\nnew Main\nstart\ngoto 0\n"))
	d := dice(167)
	var order []int
	for range 2400 {
		order = append(order, m.Threads[d.below(len(m.Threads))].Id)
		m, _ = impl.Step(m, order[len(order)-1])
	}
	if len(m.Threads) != 200 || !impl.ModelOk(m) || !impl.Safe(m) {
		t.Fatalf("%d threads", len(m.Threads))
	}
	waits := 0
	for _, th := range m.Threads {
		got, how := wantStep(t, m, th.Id)
		if how == impl.StWait {
			waits++
		}
		if len(got.Threads) != 200 {
			t.Fatalf("%d threads", len(got.Threads))
		}
	}
	got, _ := impl.Run(newModel(t, m.Prog), order)
	if !sameModel(got, m) || waits < 50 {
		t.Errorf("%s, %d wait", tellModel(got), waits)
	}
}

// tooMany is far more than there may be of anything.
const tooMany = 1 << 18

// modelsFarTooGreat have far too much of one thing each.
func modelsFarTooGreat(t *testing.T) []impl.Model {
	t.Helper()
	var list []impl.Model
	for _, turn := range []func(m *impl.Model){
		func(m *impl.Model) { m.Threads = manyThreads(1, tooMany) },
		func(m *impl.Model) { m.Threads = make([]impl.Thread, tooMany) },
		func(m *impl.Model) { m.Threads[0].Frames = make([]impl.Frame, tooMany) },
		func(m *impl.Model) { m.Threads[0].Frames[2].Stack = make([]impl.Val, tooMany) },
		func(m *impl.Model) { m.Out = make([]int, tooMany) },
		func(m *impl.Model) { m.Memory.Objects = make([]impl.Object, tooMany) },
		func(m *impl.Model) { m.Memory.Locks = make([]impl.Lock, tooMany) },
		func(m *impl.Model) { m.Memory.Objects[0].Fields = make([]impl.Val, tooMany) },
		func(m *impl.Model) { m.Prog.Kinds = make([]impl.Kind, tooMany) },
		func(m *impl.Model) { m.Prog.Kinds[0].Methods[0].List = make([]impl.Ins, tooMany) },
		func(m *impl.Model) { m.Prog = impl.Prog{Kinds: slices.Repeat(m.Prog.Kinds, tooMany/8)} },
	} {
		m := someModel(t)
		turn(&m)
		list = append(list, m)
	}
	return list
}

// greatModel is right: a memory may be as great as it is.
func greatModel(t *testing.T) impl.Model {
	t.Helper()
	return impl.Model{Prog: memoryProg(t), Memory: manyObjects(tooMany), Threads: []impl.Thread{{Id: 3, Frames: []impl.Frame{{Locals: valsOf("@3")}}}}}
}

// P33: what is far too much is answered, too.
func TestModelsThatAreFarTooGreat(t *testing.T) {
	t.Parallel()
	for _, m := range modelsFarTooGreat(t) {
		if impl.ModelOk(m) || impl.Safe(m) {
			t.Fatal("ModelOk")
		}
		if got, how := impl.Step(m, 3); how != impl.StNone || !sameModel(got, m) {
			t.Fatal("Step", how)
		}
		if got, codes := impl.Run(m, []int{3, 3}); !sameModel(got, m) || !slices.Equal(codes, []int{impl.StNone, impl.StNone}) {
			t.Fatal("Run", codes)
		}
	}
	wantNoModel(t, impl.Prog{Kinds: make([]impl.Kind, tooMany)})
	m := greatModel(t)
	if got, how := impl.Step(m, 3); how != impl.StDone || !sameMemory(got.Memory, m.Memory) || !impl.ModelOk(m) || !impl.Safe(m) {
		t.Error("Step", how)
	}
	if impl.ThreadOf(impl.Model{Threads: manyThreads(1, tooMany)}, tooMany) != tooMany-1 {
		t.Error("ThreadOf")
	}
}

// modelsForMemory: ahead of places of each kind, some of which are begun and taken back; in the last ones lists are the same memory.
func modelsForMemory(t *testing.T) []impl.Model {
	t.Helper()
	const memory = "3.0 5 @8; 8.1 -7 @3 @9; 9.2 0 @0 @9; 10.0 0 @0 | "
	var list []impl.Model
	for _, ops := range opsByWants {
		for _, op := range ops {
			for _, stack := range []string{"@8", "5 @9 @8", "@8 5", "@8 5 @9", "@0"} {
				list = append(list, opModel(t, op, stack, memory+"8 3 2; 9 4 1", overThread(10, impl.TdRun), overThread(8, impl.TdEnd)))
			}
		}
	}
	// What waits: for a monitor, at MaxCount, for a thread, to print, to start.
	list = append(list, opModel(t, "enter", "@9", memory+"8 3 2; 9 4 1"), opModel(t, "enter", "@9", memory+"9 3 1000"), opModel(t, "join", "@10", memory, overThread(10, impl.TdRun)), opModel(t, "print", "5", memory), opModel(t, "start", "@10", memory, manyThreads(100, 199)...))
	list[len(list)-2].Out = make([]int, 400)
	wrong := opModel(t, "add", "1 2", memory)
	wrong.Out = make([]int, 401)
	list = append(list, wrong, impl.Model{}, impl.Model{Prog: memoryProg(t)})
	shared := opModel(t, "get Main.n", "@8", memory, overThread(10, impl.TdRun))
	shared.Threads[1].Frames = shared.Threads[0].Frames
	alike := opModel(t, "put Main.n", "@8 5", memory)
	alike.Memory.Objects[3].Fields = alike.Memory.Objects[0].Fields
	alike.Threads[0].Frames[0].Locals = alike.Threads[0].Frames[0].Stack
	return append(list, shared, alike)
}

// roomyModel has spare room behind each of its lists, and wholeModel goes to the end of it.
func roomyModel(m impl.Model) impl.Model {
	m = cloneModel(m)
	m.Prog, m.Memory = roomyProg(m.Prog), roomyMemory(m.Memory)
	for i, th := range m.Threads {
		m.Threads[i] = roomyThread(th)
	}
	m.Threads, _ = roomy(m.Threads, overThread(77, impl.TdRun))
	m.Out, _ = roomy(m.Out, 77)
	return m
}

func wholeModel(m impl.Model) impl.Model {
	m.Prog, m.Memory, m.Threads, m.Out = wholeProg(m.Prog), wholeMemory(m.Memory), slices.Clone(m.Threads[:cap(m.Threads)]), m.Out[:cap(m.Out)]
	for i, th := range m.Threads {
		m.Threads[i] = wholeThread(th)
	}
	return m
}

func spoilModel(m impl.Model) {
	spoilProg(m.Prog)
	spoilMemory(m.Memory)
	for _, th := range m.Threads[:cap(m.Threads)] {
		spoilThread(th)
	}
	spoilAll(m.Threads, overThread(55, 55))
	spoilAll(m.Out, 55)
}

// modelApart: no two lists of a model share memory, up to the end of their spare room.
func modelApart(m impl.Model) bool {
	var vals [][]impl.Val
	var frames [][]impl.Frame
	for _, o := range m.Memory.Objects[:cap(m.Memory.Objects)] {
		vals = append(vals, o.Fields[:cap(o.Fields)])
	}
	for _, th := range m.Threads[:cap(m.Threads)] {
		frames = append(frames, th.Frames[:cap(th.Frames)])
		for _, f := range th.Frames[:cap(th.Frames)] {
			vals = append(vals, f.Locals[:cap(f.Locals)], f.Stack[:cap(f.Stack)])
		}
	}
	return marked(vals, func(v *impl.Val, n int) { v.N = n }, func(v impl.Val) int { return v.N }) &&
		marked(frames, func(f *impl.Frame, n int) { f.Kind = n }, func(f impl.Frame) int { return f.Kind }) && listsOfProg(m.Prog).apart()
}

// A modelAsk makes a model of one.
type modelAsk struct {
	what string
	ask  func(m impl.Model) impl.Model
}

func modelAsks() []modelAsk {
	list := []modelAsk{{"ModelNew", func(m impl.Model) impl.Model { got, _ := impl.ModelNew(m.Prog); return got }}}
	for _, id := range []int{3, 8, 10, 0} {
		list = append(list, modelAsk{fmt.Sprint("Step of ", id), func(m impl.Model) impl.Model { got, _ := impl.Step(m, id); return got }})
	}
	for _, order := range [][]int{nil, {3}, {3, 3, 3}, {10, 3, 10, 3}, make([]int, 3000), make([]int, 3001)} {
		list = append(list, modelAsk{fmt.Sprint("Run of ", len(order)), func(m impl.Model) impl.Model { got, _ := impl.Run(m, order); return got }})
	}
	return list
}

// P33: an answer shares no memory with a model, nor with another answer, nor do two lists of it with each other.
func TestModelsAreNewMemory(t *testing.T) {
	t.Parallel()
	for i, m := range modelsForMemory(t) {
		for _, x := range modelAsks() {
			given := roomyModel(m)
			if i%3 == 0 || len(m.Threads) == 1 {
				// As it stands, with what its lists share.
				given = m
			}
			were, whole := cloneModel(given), cloneModel(wholeModel(given))
			first, second := x.ask(given), x.ask(given)
			want := cloneModel(second)
			if !sameModel(first, want) || !modelApart(first) {
				t.Fatalf("two lists of what %s makes of %s share memory", x.what, tellModel(m))
			}
			spoilModel(first)
			if !sameModel(second, want) || !sameModel(given, were) || !sameModel(wholeModel(given), whole) {
				t.Fatalf("what %s makes of %s shares memory", x.what, tellModel(m))
			}
			given = cloneModel(given)
			third := x.ask(given)
			spoilModel(given)
			if !sameModel(second, want) || !sameModel(third, want) {
				t.Fatalf("what %s makes of %s shares memory with it", x.what, tellModel(m))
			}
		}
	}
}

// P33: an answer has no piece of the program's texts, nor do two texts of it.
func TestModelsHaveTextsOfTheirOwn(t *testing.T) {
	p := threadProg(t, 2, "push 0; return")
	m := newModel(t, p)
	stepped, _ := impl.Step(m, 1)
	ran, _ := impl.Run(m, []int{1})
	for i, x := range []struct{ was, is impl.Prog }{{p, m.Prog}, {m.Prog, stepped.Prog}, {m.Prog, ran.Prog}, {stepped.Prog, ran.Prog}} {
		for _, whole := range textsOfProg(x.was) {
			for _, part := range textsOfProg(x.is) {
				if pieceOf(whole, part) {
					t.Fatalf("%d: %q is a piece of %q", i, part, whole)
				}
			}
		}
	}
}

// tellModels: what the functions of this chapter answer to a model.
func tellModels(m impl.Model) string {
	var told strings.Builder
	fmt.Fprintln(&told, impl.ModelOk(m), impl.Safe(m), impl.ThreadOf(m, 3), impl.ThreadOf(m, 77))
	for _, x := range modelAsks() {
		got := x.ask(m)
		fmt.Fprintln(&told, x.what, tellModel(got), tellProg(got.Prog))
	}
	for _, id := range []int{3, 8, 10, 77} {
		_, how := impl.Step(m, id)
		_, codes := impl.Run(m, []int{id, 3, id})
		fmt.Fprintln(&told, how, codes)
	}
	_, made := impl.ModelNew(m.Prog)
	fmt.Fprintln(&told, made)
	return told.String()
}

// wantModelsUnwritten: neither a model's lists, nor those of what is in it, nor the spare room behind them are written, whatever is told of
// it; what stands there does not count.
func wantModelsUnwritten(t *testing.T, tell func(m impl.Model) string) {
	t.Helper()
	for _, m := range modelsForMemory(t) {
		given := roomyModel(m)
		whole := cloneModel(wholeModel(given))
		if tell(given) != tell(cloneModel(m)) {
			t.Fatalf("%s: an answer hangs on the room behind it", tellModel(m))
		}
		if !sameModel(wholeModel(given), whole) || !sameModel(given, m) {
			t.Fatalf("%s is written into", tellModel(m))
		}
	}
}

// P33.
func TestModelsAreNotWritten(t *testing.T) { wantModelsUnwritten(t, tellModels) }

// P33: an order is not written, nor the room behind it.
func TestRunWritesNoOrder(t *testing.T) {
	for _, m := range modelsForMemory(t)[:40] {
		order, whole := roomy([]int{3, 10, 3, 8}, 3)
		were := slices.Clone(whole)
		_, codes := impl.Run(m, order)
		_, again := impl.Run(m, order)
		want := slices.Clone(again)
		spoilAll(codes, 55)
		if !slices.Equal(whole, were) || !slices.Equal(again, want) || len(codes) != 4 {
			t.Fatalf("%s: %v, %v", tellModel(m), whole, again)
		}
	}
}

// wantModelsToldAgain asks of some of modelsForMemory.
func wantModelsToldAgain(t *testing.T, tell func(m impl.Model) string) {
	t.Helper()
	var list []impl.Model
	for i, m := range modelsForMemory(t) {
		if i%9 == 0 || i > 118 && len(m.Threads) < 9 {
			list = append(list, m)
		}
	}
	wantToldAgain(t, list, tell)
}

func TestModelsKeepNothing(t *testing.T) { wantModelsToldAgain(t, tellModels) }
