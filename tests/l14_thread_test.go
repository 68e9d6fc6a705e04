package tests

import (
	"fmt"
	"math"
	"slices"
	"strconv"
	"strings"
	"testing"

	"loop.example/g00283/impl"
)

// threadKin stands behind the method run of class Main (0): Kid (1) and Far (2), a Kid, are Mains. Of the others Lone (3) has methods
// of the same names with other numbers of Params, and no run; Odd (4) has a run that is none of a thread by its Result, Bent (5) by its Params.
const threadKin = "method get I 1\npush 1\nreturn\n" +
	"method put Main 4 I Kid\nload 0\nreturn\n" +
	"class Kid Main\nfield far Far\nmethod get I 2\nload 0\nget Main.n\npush 5\nadd\nreturn\n" +
	"class Far Kid\nmethod run I 4\npush 2\nreturn\n" +
	"class Lone\nmethod get I 2 I\nload 1\nreturn\nmethod put I 2 I\nload 1\nreturn\n" +
	"class Odd\nmethod run Odd 1\nload 0\nreturn\nmethod own I 1\npush 3\nreturn\n" +
	"class Bent\nmethod put Odd 3 Odd I\nload 1\nreturn\nmethod run I 2 I\nload 1\nreturn\nmethod get I 6\npush 4\nreturn\n"

// threadProg is a program whose method run of Main has these places; "; " is between them.
func threadProg(t *testing.T, locals int, places string) impl.Prog {
	t.Helper()
	return progOf(t, fmt.Sprintf("class Main\nfield n I\nfield next Kid\nmethod run I %d\n%s\n%s", locals, strings.ReplaceAll(places, "; ", "\n"), threadKin))
}

func wordVal(n int) impl.Val { return impl.Val{N: n} }

func refVal(n int) impl.Val { return impl.Val{Ref: true, N: n} }

// valsOf reads values: "5" is a word, "@5" an object, "@0" null.
func valsOf(told string) []impl.Val {
	var list []impl.Val
	for _, s := range strings.Fields(told) {
		digits, is := strings.CutPrefix(s, "@")
		n, err := strconv.Atoi(digits)
		if err != nil {
			panic(s)
		}
		list = append(list, impl.Val{Ref: is, N: n})
	}
	return list
}

func tellVals(list []impl.Val) string {
	var told []string
	for _, v := range list {
		told = append(told, map[bool]string{true: "@"}[v.Ref]+strconv.Itoa(v.N))
	}
	return strings.Join(told, " ")
}

// tellThread: "0.1:2 @3 0 | 5" is a frame of method 1 of class 0, at place 2, with two locals, and 5 on the stack; "made" and "state" stand behind.
func tellThread(t impl.Thread) string {
	var told []string
	for _, f := range t.Frames {
		told = append(told, fmt.Sprintf("%d.%d:%d %s | %s", f.Kind, f.Method, f.Pc, tellVals(f.Locals), tellVals(f.Stack)))
	}
	return fmt.Sprintf("%s; made %d, state %d", strings.Join(told, "; "), t.Made, t.State)
}

// oneFrame is a thread of object 3 at place 0 of the method run of Main.
func oneFrame(locals, stack string) impl.Thread {
	return impl.Thread{Id: 3, Frames: []impl.Frame{{Locals: valsOf(locals), Stack: valsOf(stack)}}}
}

func sameFrame(a, b impl.Frame) bool {
	return a.Kind == b.Kind && a.Method == b.Method && a.Pc == b.Pc && slices.Equal(a.Locals, b.Locals) && slices.Equal(a.Stack, b.Stack)
}

func sameThread(a, b impl.Thread) bool {
	return a.Id == b.Id && a.State == b.State && a.Made == b.Made && slices.EqualFunc(a.Frames, b.Frames, sameFrame)
}

func cloneThread(t impl.Thread) impl.Thread {
	t.Frames = slices.Clone(t.Frames)
	for i, f := range t.Frames {
		t.Frames[i].Locals, t.Frames[i].Stack = slices.Clone(f.Locals), slices.Clone(f.Stack)
	}
	return t
}

func valRight(v impl.Val) bool {
	if v.Ref {
		return v.N >= 0 && v.N <= 1000000
	}
	return v.N == int(int32(v.N))
}

func frameRight(p impl.Prog, f impl.Frame) bool {
	x := placeBook{p, f.Kind, f.Method}
	if !x.there() || x.code().Owner != f.Kind || f.Pc < 0 || f.Pc >= len(x.code().List) || len(f.Locals) != x.code().Locals || len(f.Stack) > 6 {
		return false
	}
	wrong := func(v impl.Val) bool { return !valRight(v) }
	return !slices.ContainsFunc(f.Locals, wrong) && !slices.ContainsFunc(f.Stack, wrong)
}

func threadRight(p impl.Prog, t impl.Thread) bool {
	for _, f := range t.Frames {
		if !frameRight(p, f) {
			return false
		}
	}
	return t.Id >= 1 && t.Id <= 1000000 && len(t.Frames) <= 8 && (len(t.Frames) > 0 || t.State != 0) && t.State >= 0 && t.State <= 5 && t.Made >= 0 && t.Made <= 15
}

// A threadBook is a thread at a place that comes, told without the program.
type threadBook struct {
	placeBook
	frame  impl.Frame
	in     impl.Ins
	refers impl.Const
}

func nowThere(p impl.Prog, t impl.Thread) (threadBook, bool) {
	if !progRight(p) || !threadRight(p, t) || t.State != impl.TdRun {
		return threadBook{}, false
	}
	f := t.Frames[len(t.Frames)-1]
	x := threadBook{placeBook: placeBook{p, f.Kind, f.Method}, frame: f}
	x.in = x.code().List[f.Pc]
	switch x.in.Op {
	case impl.OpConst, impl.OpNew, impl.OpGet, impl.OpPut, impl.OpCall:
		k, ok := x.constAt(x.in)
		if !ok {
			return threadBook{}, false
		}
		x.refers = k
	}
	return x, true
}

// wants is how many values a place takes.
func (x threadBook) wants() int {
	switch x.in.Op {
	case impl.OpPush, impl.OpConst, impl.OpLoad, impl.OpNull, impl.OpNew, impl.OpGoto:
		return 0
	case impl.OpStore, impl.OpGet, impl.OpZero, impl.OpEnter, impl.OpExit, impl.OpPrint, impl.OpReturn, impl.OpStart, impl.OpJoin, impl.OpPop, impl.OpDup:
		return 1
	case impl.OpCall:
		methods := x.p.Kinds[progBook(x.p).number(x.refers.A)].Methods
		return len(methods[codeAt(methods, x.refers.B)].Params) + 1
	}
	return 2
}

// hand is the place on the stack of what is at hand.
func (x threadBook) hand() (int, bool) {
	below := map[int]int{impl.OpGet: 1, impl.OpEnter: 1, impl.OpExit: 1, impl.OpStart: 1, impl.OpJoin: 1, impl.OpPut: 2}[x.in.Op]
	if x.in.Op == impl.OpCall {
		below = x.wants()
	}
	at := len(x.frame.Stack) - below
	return at, below > 0 && at >= 0 && x.frame.Stack[at].Ref
}

func handThere(x threadBook, comes bool) (int, bool) {
	if !comes {
		return 0, false
	}
	at, ok := x.hand()
	if !ok {
		return 0, false
	}
	return x.frame.Stack[at].N, true
}

// lookedUp is the frame of a class' method of a name, with so many Params.
func lookedUp(p impl.Prog, class int, name string, params int) (impl.Frame, bool) {
	if class < 0 || class >= len(p.Kinds) {
		return impl.Frame{}, false
	}
	at := codeAt(p.Kinds[class].Methods, name)
	if at < 0 || len(p.Kinds[class].Methods[at].Params) != params {
		return impl.Frame{}, false
	}
	m := p.Kinds[class].Methods[at]
	return impl.Frame{Kind: m.Owner, Method: codeAt(p.Kinds[m.Owner].Methods, name), Locals: make([]impl.Val, m.Locals)}, true
}

func putThere(f *impl.Frame, list ...impl.Val) {
	for _, v := range list {
		if len(f.Stack) != 6 {
			f.Stack = append(f.Stack, v)
		}
	}
}

func flagVal(is bool) impl.Val {
	return map[bool]impl.Val{true: wordVal(1)}[is]
}

// stopThere is the state in which a place stops a thread; 0 where it does not.
func (x threadBook) stopThere(t impl.Thread, class int) int {
	at, handed := x.hand()
	if handed && x.frame.Stack[at].N == 0 {
		return impl.TdNull
	}
	switch x.in.Op {
	case impl.OpCall:
		if _, ok := lookedUp(x.p, class, x.refers.B, x.wants()-1); !ok {
			return impl.TdNull
		}
		if len(t.Frames) == 8 {
			return impl.TdDeep
		}
	case impl.OpNew:
		if t.Made == 15 || 16*t.Id+t.Made+1 > 1000000 {
			return impl.TdRoom
		}
	}
	return impl.TdRun
}

// localThere wants what nowThere tells of the thread.
func localThere(x threadBook, comes bool, t impl.Thread, class int) (impl.Thread, int, bool) {
	out := cloneThread(t)
	if !comes || len(x.frame.Stack) < x.wants() {
		return out, 0, false
	}
	if op := x.in.Op; (op == impl.OpLoad || op == impl.OpStore) && x.in.N >= len(x.frame.Locals) {
		return out, 0, false
	}
	if _, handed := x.hand(); !handed && slices.Contains(handedOps, x.in.Op) {
		return out, 0, false
	}
	if state := x.stopThere(t, class); state != impl.TdRun {
		out.State = state
		return out, 0, true
	}
	f := &out.Frames[len(out.Frames)-1]
	left := len(f.Stack) - x.wants()
	took := slices.Clone(f.Stack[left:])
	f.Stack = f.Stack[:left:left]
	f.Pc++
	return x.did(out, took, class)
}

var handedOps = []int{impl.OpGet, impl.OpPut, impl.OpCall, impl.OpEnter, impl.OpExit, impl.OpStart, impl.OpJoin}

// did wants a thread at the next place, from whose stack what the place takes is taken.
func (x threadBook) did(out impl.Thread, took []impl.Val, class int) (impl.Thread, int, bool) {
	f := &out.Frames[len(out.Frames)-1]
	switch x.in.Op {
	case impl.OpPush:
		putThere(f, wordVal(x.in.N))
	case impl.OpConst:
		putThere(f, wordVal(x.refers.N))
	case impl.OpNull:
		putThere(f, refVal(0))
	case impl.OpNew:
		out.Made++
		putThere(f, refVal(16*out.Id+out.Made))
	case impl.OpLoad:
		putThere(f, f.Locals[x.in.N])
	case impl.OpStore:
		f.Locals[x.in.N] = took[0]
	case impl.OpAdd:
		putThere(f, wordVal(int(int32(took[0].N)+int32(took[1].N))))
	case impl.OpSub:
		putThere(f, wordVal(int(int32(took[0].N)-int32(took[1].N))))
	case impl.OpMul:
		putThere(f, wordVal(int(int32(took[0].N)*int32(took[1].N))))
	case impl.OpLess:
		putThere(f, flagVal(took[0].N < took[1].N))
	case impl.OpSame:
		putThere(f, flagVal(took[0].Ref == took[1].Ref && took[0].N == took[1].N))
	case impl.OpDup:
		putThere(f, took[0], took[0])
	case impl.OpGoto:
		f.Pc = x.in.N
	case impl.OpZero:
		if took[0].N == 0 {
			f.Pc = x.in.N
		}
	case impl.OpPrint:
		return out, took[0].N, true
	case impl.OpCall:
		called, _ := lookedUp(x.p, class, x.refers.B, len(took)-1)
		copy(called.Locals, took)
		out.Frames = append(out.Frames, called)
	case impl.OpReturn:
		out.Frames = out.Frames[:len(out.Frames)-1]
		if len(out.Frames) == 0 {
			out.State = impl.TdEnd
		} else {
			putThere(&out.Frames[len(out.Frames)-1], took[0])
		}
	}
	return out, 0, true
}

func giveThere(t impl.Thread, v impl.Val) impl.Thread {
	out := cloneThread(t)
	if n := len(out.Frames); n > 0 && len(out.Frames[n-1].Stack) < 6 {
		out.Frames[n-1].Stack = append(out.Frames[n-1].Stack, v)
	}
	return out
}

// wantTurn: Now, Hand and Local answer what the test's own tells, and P14: what is right stays so.
func wantTurn(t *testing.T, p impl.Prog, th impl.Thread, class int) (impl.Thread, bool) {
	t.Helper()
	x, comes := nowThere(p, th)
	if in, k, ok := impl.Now(p, th); in != x.in || k != x.refers || ok != comes {
		t.Fatalf("%+v: Now of %+v is %+v, %+v, %v", p, th, in, k, ok)
	}
	id, handed := handThere(x, comes)
	if got, ok := impl.Hand(p, th); got != id || ok != handed {
		t.Fatalf("%+v: Hand of %+v is %d, %v", p, th, got, ok)
	}
	want, prints, does := localThere(x, comes, th, class)
	got, printed, ok := impl.Local(p, th, class)
	if !sameThread(got, want) || printed != prints || ok != does {
		t.Fatalf("%+v: Local of %+v with class %d is %+v, %d, %v in place of %+v, %d, %v", p, th, class, got, printed, ok, want, prints, does)
	}
	right := threadRight(p, th)
	if impl.ThreadOk(p, th) != right || impl.ThreadOk(p, got) != threadRight(p, got) || right && !impl.ThreadOk(p, got) {
		t.Fatalf("%+v: %+v is right: %v; then %+v", p, th, right, got)
	}
	return got, ok
}

func TestThreadConstants(t *testing.T) {
	if impl.MaxFrames != 8 || impl.MaxMade != 15 {
		t.Error("limits")
	}
	for i, state := range []int{impl.TdRun, impl.TdEnd, impl.TdNull, impl.TdOwner, impl.TdDeep, impl.TdRoom} {
		if state != i {
			t.Errorf("state %d is %d", i, state)
		}
	}
}

// deepThread has n frames, of run of Main below some of get of Kid.
func deepThread(n int) impl.Thread {
	t := oneFrame("@3 0", "7 @4")
	for len(t.Frames) < n {
		t.Frames = append(t.Frames, impl.Frame{Kind: 1, Method: 1, Pc: 4, Locals: valsOf("@4 5"), Stack: valsOf("6")})
	}
	t.Frames = t.Frames[:n]
	return t
}

// A threadTurn makes a thread that is right another one.
type threadTurn struct {
	what string
	turn func(t *impl.Thread)
}

func idTurn(n int) threadTurn {
	return threadTurn{fmt.Sprint("id ", n), func(t *impl.Thread) { t.Id = n }}
}

func stateTurn(n int) threadTurn {
	return threadTurn{fmt.Sprint("state ", n), func(t *impl.Thread) { t.State = n }}
}

func madeTurn(n int) threadTurn {
	return threadTurn{fmt.Sprint("made ", n), func(t *impl.Thread) { t.Made = n }}
}

func framesTurn(n int) threadTurn {
	return threadTurn{fmt.Sprint(n, " frames"), func(t *impl.Thread) { t.Frames = deepThread(n).Frames }}
}

// frameTurn turns the frame at that place, which is there.
func frameTurn(what string, at int, turn func(f *impl.Frame)) threadTurn {
	return threadTurn{fmt.Sprint(what, " of frame ", at), func(t *impl.Thread) { turn(&t.Frames[at]) }}
}

// stackOf has so many values on the stack.
func stackOf(n int) []impl.Val { return slices.Repeat([]impl.Val{wordVal(5)}, n) }

// wrongThreadTurns: what they make of deepThread(3) of threadProg with two locals is wrong, each in one way.
func wrongThreadTurns() []threadTurn {
	list := []threadTurn{
		idTurn(0), idTurn(impl.MaxId + 1), stateTurn(6), madeTurn(16), framesTurn(0), framesTurn(9), framesTurn(300),
		{"no frames, nil", func(t *impl.Thread) { t.Frames = nil }},
	}
	for _, n := range edgeNumbers() {
		list = append(list, idTurn(n), stateTurn(n), madeTurn(n))
	}
	for at := range 3 {
		set := func(what string, turn func(f *impl.Frame)) { list = append(list, frameTurn(what, at, turn)) }
		for _, n := range append(edgeNumbers(), 6, 7, 256) {
			set(fmt.Sprint("Kind ", n), func(f *impl.Frame) { f.Kind = n })
			set(fmt.Sprint("Method ", n), func(f *impl.Frame) { f.Method = n })
			set(fmt.Sprint("Pc ", n), func(f *impl.Frame) { f.Pc = n })
		}
		set("Kind 5, Method 3", func(f *impl.Frame) { f.Kind, f.Method = 5, 3 })
		set("another method's place", func(f *impl.Frame) { f.Kind, f.Method, f.Pc, f.Locals = 0, 1, 2, valsOf("@1") })
		set("a Kind that has it from above", func(f *impl.Frame) { f.Kind, f.Method, f.Pc, f.Locals = 1, 2, 0, valsOf("@1 0 @0 0") })
		set("another Kind that has it from above", func(f *impl.Frame) { f.Kind, f.Method, f.Pc, f.Locals = 2, 1, 0, valsOf("@1 0") })
		set("no locals", func(f *impl.Frame) { f.Locals = nil })
		set("a local less", func(f *impl.Frame) { f.Locals = f.Locals[:1] })
		set("a local more", func(f *impl.Frame) { f.Locals = append(f.Locals, wordVal(0)) })
		set("a value more", func(f *impl.Frame) { f.Stack = stackOf(7) })
		set("many values", func(f *impl.Frame) { f.Stack = stackOf(300) })
		for _, v := range []impl.Val{wordVal(1 << 31), wordVal(-1<<31 - 1), wordVal(math.MaxInt), wordVal(math.MinInt), refVal(-1), refVal(impl.MaxId + 1), refVal(math.MaxInt), refVal(math.MinInt)} {
			set(fmt.Sprint("a first local ", v), func(f *impl.Frame) { f.Locals[0] = v })
			set(fmt.Sprint("a last local ", v), func(f *impl.Frame) { f.Locals[1] = v })
			set(fmt.Sprint("a first value ", v), func(f *impl.Frame) { f.Stack[0] = v })
			set(fmt.Sprint("a last value ", v), func(f *impl.Frame) { f.Stack = append(f.Stack, v) })
		}
	}
	return list
}

// rightThreadTurns: what they make of it is right; each limit is met.
func rightThreadTurns() []threadTurn {
	list := []threadTurn{
		idTurn(1), idTurn(2), idTurn(impl.MaxId - 1), idTurn(impl.MaxId), framesTurn(1), framesTurn(2), framesTurn(7), framesTurn(8),
	}
	for n := range 6 {
		list = append(list, stateTurn(n))
	}
	for n := range 16 {
		list = append(list, madeTurn(n))
	}
	for state := impl.TdEnd; state <= impl.TdRoom; state++ {
		list = append(list, threadTurn{fmt.Sprint("no frames, state ", state), func(t *impl.Thread) { t.Frames, t.State = nil, state }})
	}
	for at := range 3 {
		set := func(what string, turn func(f *impl.Frame)) { list = append(list, frameTurn(what, at, turn)) }
		set("a first place", func(f *impl.Frame) { f.Pc = 0 })
		set("the last of another method", func(f *impl.Frame) { f.Kind, f.Method, f.Pc, f.Locals = 0, 1, 1, valsOf("@1") })
		set("the last of one in place of another", func(f *impl.Frame) { f.Kind, f.Method, f.Pc, f.Locals = 2, 0, 1, valsOf("@1 0 @0 0") })
		set("the last of the last class", func(f *impl.Frame) { f.Kind, f.Method, f.Pc, f.Locals = 5, 2, 1, valsOf("0 1 2 3 4 5") })
		for n := range 7 {
			set(fmt.Sprint(n, " values"), func(f *impl.Frame) { f.Stack = stackOf(n) })
		}
		for _, v := range []impl.Val{wordVal(1<<31 - 1), wordVal(-1 << 31), wordVal(0), refVal(0), refVal(1), refVal(impl.MaxId)} {
			set(fmt.Sprint("a first local ", v), func(f *impl.Frame) { f.Locals[0] = v })
			set(fmt.Sprint("a last local ", v), func(f *impl.Frame) { f.Locals[1] = v })
			set(fmt.Sprint("a value ", v), func(f *impl.Frame) { f.Stack[0] = v })
		}
	}
	return list
}

func (x threadTurn) of(t impl.Thread) impl.Thread {
	t = cloneThread(t)
	x.turn(&t)
	return t
}

func TestThreadOk(t *testing.T) {
	p := threadProg(t, 2, "push 0; return")
	for _, right := range []bool{true, false} {
		for _, x := range map[bool][]threadTurn{true: rightThreadTurns(), false: wrongThreadTurns()}[right] {
			th := x.of(deepThread(3))
			if threadRight(p, th) != right {
				t.Fatalf("%s is not as this test wants it", x.what)
			}
			if impl.ThreadOk(p, th) != right {
				t.Errorf("%s: ThreadOk of %+v is %v", x.what, th, !right)
			}
		}
	}
	if impl.ThreadOk(p, impl.Thread{}) {
		t.Error("ThreadOk of the zero value")
	}
}

// Two numbers of a thread that are wrong at once, or that turn each other right, as a Kind and its Method do.
func TestThreadOkOfTwoTurns(t *testing.T) {
	p := threadProg(t, 2, "push 0; return")
	var counts [2]int
	for k := -1; k <= 6; k++ {
		for m := -1; m <= 4; m++ {
			for pc := -1; pc <= 5; pc++ {
				for locals := range 8 {
					th := deepThread(2)
					th.Frames[1] = impl.Frame{Kind: k, Method: m, Pc: pc, Locals: stackOf(locals)}
					right := threadRight(p, th)
					if impl.ThreadOk(p, th) != right {
						t.Fatalf("ThreadOk of %+v is %v", th, !right)
					}
					counts[flagVal(right).N]++
				}
			}
		}
	}
	if counts[0] < 1000 || counts[1] < 20 {
		t.Errorf("%v", counts)
	}
}

// ThreadOk asks of a program only what there is of it: whatever it is, nothing but the frames' methods counts.
func TestThreadOkOfWrongPrograms(t *testing.T) {
	p := threadProg(t, 2, "push 0; return")
	var counts [2]int
	for _, q := range append(append(wrongTurns(p), twistedProgs()...), impl.Prog{}) {
		for _, th := range []impl.Thread{oneFrame("@3 0", "7"), deepThread(3), {Id: 3, State: impl.TdEnd}, {Id: 3}} {
			right := threadRight(q, th)
			if impl.ThreadOk(q, th) != right {
				t.Fatalf("%+v: ThreadOk of %+v is %v", q, th, !right)
			}
			if right {
				counts[1]++
			} else {
				counts[0]++
			}
		}
	}
	if counts[0] < 500 || counts[1] < 500 {
		t.Errorf("%v", counts)
	}
}

func wantNew(t *testing.T, p impl.Prog, id, class int, told string) {
	t.Helper()
	got, ok := impl.ThreadNew(p, id, class)
	if !ok || got.Id != id || tellThread(got) != told || !impl.ThreadOk(p, got) {
		t.Errorf("ThreadNew of %d and class %d is %d %s, %v in place of %s", id, class, got.Id, tellThread(got), ok, told)
	}
}

func wantNoNew(t *testing.T, p impl.Prog, id, class int) {
	t.Helper()
	if got, ok := impl.ThreadNew(p, id, class); ok || !sameThread(got, impl.Thread{}) {
		t.Fatalf("%+v: ThreadNew of %d and class %d is %+v, %v", p, id, class, got, ok)
	}
}

func TestThreadNew(t *testing.T) {
	p := threadProg(t, 3, "push 0; return")
	for _, id := range []int{1, 2, 17, impl.MaxId - 1, impl.MaxId} {
		object := tellVals([]impl.Val{refVal(id)})
		wantNew(t, p, id, 0, "0.0:0 "+object+" 0 0 | ; made 0, state 0")
		wantNew(t, p, id, 1, "0.0:0 "+object+" 0 0 | ; made 0, state 0")
		wantNew(t, p, id, 2, "2.0:0 "+object+" 0 0 0 | ; made 0, state 0")
		// No run; one with another Result; one with Params; no class.
		for _, class := range append(edgeNumbers(), 3, 4, 5, 6, 7, 256, 1<<32+1) {
			wantNoNew(t, p, id, class)
		}
	}
	for _, id := range append(edgeNumbers(), 0, impl.MaxId+1, impl.MaxId+2, 1<<32+1) {
		for class := -1; class <= 6; class++ {
			wantNoNew(t, p, id, class)
		}
	}
}

// Where run is not the first method, and where it has one local or as many as there may be.
func TestThreadNewOfOtherMethods(t *testing.T) {
	p := progOf(t, "class Main\nmethod get I 1\npush 0\nreturn\nmethod run I 6\npush 0\nreturn\n"+
		"class Kid Main\nmethod own I 1\npush 0\nreturn\nclass Far Kid\nmethod run I 1\npush 1\nreturn\nclass Last Far\n"+
		"class Late\nmethod own I 1\npush 0\nreturn\nmethod get I 1\npush 0\nreturn\nmethod run I 2\npush 0\nreturn\nclass Later Late\n")
	wantNew(t, p, 9, 0, "0.1:0 @9 0 0 0 0 0 | ; made 0, state 0")
	wantNew(t, p, 9, 1, "0.1:0 @9 0 0 0 0 0 | ; made 0, state 0")
	wantNew(t, p, 9, 2, "2.1:0 @9 | ; made 0, state 0")
	wantNew(t, p, 9, 3, "2.1:0 @9 | ; made 0, state 0")
	wantNew(t, p, 9, 4, "4.2:0 @9 0 | ; made 0, state 0")
	wantNew(t, p, 9, 5, "4.2:0 @9 0 | ; made 0, state 0")
}

// newThere is what ThreadNew has to answer.
func newThere(p impl.Prog, id, class int) (impl.Thread, bool) {
	if !progRight(p) || id < 1 || id > 1000000 {
		return impl.Thread{}, false
	}
	f, ok := lookedUp(p, class, "run", 0)
	if !ok || p.Kinds[f.Kind].Methods[f.Method].Result != "I" {
		return impl.Thread{}, false
	}
	f.Locals[0] = refVal(id)
	return impl.Thread{Id: id, Frames: []impl.Frame{f}}, true
}

func TestThreadNewOfManyPrograms(t *testing.T) {
	d := dice(14)
	made := 0
	list := listTurns(threadProg(t, 2, "push 0; return"))
	for range 300 {
		if p, how := impl.Link(d.someSet()); how == impl.LnDone {
			list = append(list, p)
		}
	}
	for _, p := range list {
		for class := -1; class <= 6; class++ {
			want, is := newThere(p, 4, class)
			got, ok := impl.ThreadNew(p, 4, class)
			if ok != is || !sameThread(got, want) || ok && !impl.ThreadOk(p, got) {
				t.Fatalf("%+v: ThreadNew of class %d is %+v, %v", p, class, got, ok)
			}
			if ok {
				made++
			}
		}
	}
	if made < 300 {
		t.Errorf("%d made", made)
	}
}

// A stage is what comes at a place of a way, and what is behind it.
type stage struct {
	in     impl.Ins
	refers impl.Const
	hand   int // -1: nothing is at hand
	class  int
	prints int
	give   string // what is given behind it
	told   string
}

// wantStages goes on place by place.
func wantStages(t *testing.T, p impl.Prog, th impl.Thread, list []stage) impl.Thread {
	t.Helper()
	for i, x := range list {
		in, k, comes := impl.Now(p, th)
		hand, handed := impl.Hand(p, th)
		if !comes || in != x.in || k != x.refers || handed != (x.hand >= 0) || hand != max(x.hand, 0) {
			t.Fatalf("%d, %s: Now is %+v, %+v, %v; Hand is %d, %v", i, tellThread(th), in, k, comes, hand, handed)
		}
		wantTurn(t, p, th, x.class)
		got, printed, ok := impl.Local(p, th, x.class)
		for _, v := range valsOf(x.give) {
			got = impl.Give(got, v)
		}
		if !ok || printed != x.prints || tellThread(got) != x.told || !impl.ThreadOk(p, got) {
			t.Fatalf("%d, %s: Local is %s, %d, %v in place of %s", i, tellThread(th), tellThread(got), printed, ok, x.told)
		}
		th = got
	}
	return th
}

const journey = "push 0; zero 3; goto 0; load 0; push 7; null; call Main.put; store 1; new Far; call Main.get; print; push 0; return"

// P14: a thread from its beginning to its end, with a jump, a call of a method of its own class, and one of a method that a class has from above.
func TestAThreadFromItsBeginningToItsEnd(t *testing.T) {
	p := threadProg(t, 2, journey)
	if code, k, m := impl.Verify(p); code != impl.VrDone {
		t.Fatal(code, k, m)
	}
	th, ok := impl.ThreadNew(p, 3, 0)
	if !ok || tellThread(th) != "0.0:0 @3 0 | ; made 0, state 0" {
		t.Fatal(tellThread(th))
	}
	none := impl.Const{}
	th = wantStages(t, p, th, []stage{
		{push(0), none, -1, 0, 0, "", "0.0:1 @3 0 | 0; made 0, state 0"},
		{ins(impl.OpZero, 3), none, -1, 0, 0, "", "0.0:3 @3 0 | ; made 0, state 0"},
		{ins(impl.OpLoad, 0), none, -1, 0, 0, "", "0.0:4 @3 0 | @3; made 0, state 0"},
		{push(7), none, -1, 0, 0, "", "0.0:5 @3 0 | @3 7; made 0, state 0"},
		{bare(impl.OpNull), none, -1, 0, 0, "", "0.0:6 @3 0 | @3 7 @0; made 0, state 0"},
		{ins(impl.OpCall, 0), callConst("Main", "put"), 3, 0, 0, "", "0.0:7 @3 0 | ; 0.2:0 @3 7 @0 0 | ; made 0, state 0"},
		{ins(impl.OpLoad, 0), none, -1, 0, 0, "", "0.0:7 @3 0 | ; 0.2:1 @3 7 @0 0 | @3; made 0, state 0"},
		{ret(), none, -1, 0, 0, "", "0.0:7 @3 0 | @3; made 0, state 0"},
		{ins(impl.OpStore, 1), none, -1, 0, 0, "", "0.0:8 @3 @3 | ; made 0, state 0"},
		{ins(impl.OpNew, 1), classConst("Far"), -1, 0, 0, "", "0.0:9 @3 @3 | @49; made 1, state 0"},
		{ins(impl.OpCall, 2), callConst("Main", "get"), 49, 2, 0, "", "0.0:10 @3 @3 | ; 1.1:0 @49 0 | ; made 1, state 0"},
		{ins(impl.OpLoad, 0), none, -1, 0, 0, "", "0.0:10 @3 @3 | ; 1.1:1 @49 0 | @49; made 1, state 0"},
		{ins(impl.OpGet, 0), fieldConst("Main", "n"), 49, 0, 0, "8", "0.0:10 @3 @3 | ; 1.1:2 @49 0 | 8; made 1, state 0"},
		{push(5), none, -1, 0, 0, "", "0.0:10 @3 @3 | ; 1.1:3 @49 0 | 8 5; made 1, state 0"},
		{bare(impl.OpAdd), none, -1, 0, 0, "", "0.0:10 @3 @3 | ; 1.1:4 @49 0 | 13; made 1, state 0"},
		{ret(), none, -1, 0, 0, "", "0.0:10 @3 @3 | 13; made 1, state 0"},
		{bare(impl.OpPrint), none, -1, 0, 13, "", "0.0:11 @3 @3 | ; made 1, state 0"},
		{push(0), none, -1, 0, 0, "", "0.0:12 @3 @3 | 0; made 1, state 0"},
		{ret(), none, -1, 0, 0, "", "; made 1, state 1"},
	})
	// It has ended: nothing comes any more.
	wantStill(t, p, th)
}

// wantStill: no place comes, nothing is at hand, and nothing is done.
func wantStill(t *testing.T, p impl.Prog, th impl.Thread) {
	t.Helper()
	if in, k, ok := impl.Now(p, th); ok || in != (impl.Ins{}) || k != (impl.Const{}) {
		t.Fatalf("%+v: Now of %+v is %+v, %+v, %v", p, th, in, k, ok)
	}
	if id, ok := impl.Hand(p, th); ok || id != 0 {
		t.Fatalf("%+v: Hand of %+v is %d, %v", p, th, id, ok)
	}
	wantUndone(t, p, th)
}

// wantUndone: as it was, 0 and false, whatever the class.
func wantUndone(t *testing.T, p impl.Prog, th impl.Thread) {
	t.Helper()
	for _, class := range []int{0, 1, 2, 5, -1, 6, math.MaxInt} {
		if got, printed, ok := impl.Local(p, th, class); ok || printed != 0 || !sameThread(got, th) {
			t.Fatalf("%+v: Local of %+v is %+v, %d, %v", p, th, got, printed, ok)
		}
	}
}

// An opCase is an op at place 0 of run, which has two locals, and what is on the stack ahead of it; then what is told of the thread behind it.
type opCase struct {
	op, stack string
	class     int
	told      string
	prints    int
}

func opProg(t *testing.T, op string) impl.Prog {
	t.Helper()
	return threadProg(t, 2, op+"; push 0; return")
}

// wantOps: each is done; the thread is that of object 3 with the locals @3 and 4.
func wantOps(t *testing.T, list []opCase) {
	t.Helper()
	for _, x := range list {
		p, th := opProg(t, x.op), oneFrame("@3 4", x.stack)
		wantTurn(t, p, th, x.class)
		got, printed, ok := impl.Local(p, th, x.class)
		if !ok || printed != x.prints || got.Id != 3 || tellThread(got) != x.told {
			t.Errorf("%s with %s: %s, %d, %v in place of %s, %d", x.op, x.stack, tellThread(got), printed, ok, x.told, x.prints)
		}
	}
}

// simply is what is told where the op is done in its frame, which goes on with the next place.
func simply(op, stack, behind string) opCase {
	return opCase{op, stack, 0, "0.0:1 @3 4 | " + behind + "; made 0, state 0", 0}
}

func TestLocalOfEachOp(t *testing.T) {
	wantOps(t, []opCase{
		simply("push 5", "", "5"), simply("push -128", "1 @2", "1 @2 -128"), simply("push 127", "", "127"),
		simply("const 70000", "", "70000"), simply("const -2147483648", "@1", "@1 -2147483648"), simply("const 2147483647", "", "2147483647"),
		simply("load 0", "", "@3"), simply("load 1", "9", "9 4"),
		{"store 0", "8", 0, "0.0:1 8 4 | ; made 0, state 0", 0},
		{"store 1", "7 @8", 0, "0.0:1 @3 @8 | 7; made 0, state 0", 0},
		simply("add", "7 2", "9"), simply("add", "@1 9 7 -2", "@1 9 5"),
		simply("sub", "7 2", "5"), simply("sub", "2 7", "-5"), simply("sub", "1 2 3", "1 -1"),
		simply("mul", "7 2", "14"), simply("mul", "1 -7 2", "1 -14"),
		simply("null", "", "@0"), simply("null", "1", "1 @0"),
		{"new Far", "1", 0, "0.0:1 @3 4 | 1 @49; made 1, state 0", 0},
		simply("get Main.n", "@8", ""), simply("get Kid.far", "1 @8", "1"),
		simply("put Main.n", "@8 5", ""), simply("put Kid.far", "1 @8 @9", "1"), simply("put Main.next", "@8 @0", ""),
		{"call Main.get", "1 @8", 0, "0.0:1 @3 4 | 1; 0.1:0 @8 | ; made 0, state 0", 0},
		{"call Main.put", "1 @8 5 @9", 0, "0.0:1 @3 4 | 1; 0.2:0 @8 5 @9 0 | ; made 0, state 0", 0},
		{"zero 2", "1 0", 0, "0.0:2 @3 4 | 1; made 0, state 0", 0},
		{"zero 0", "0", 0, "0.0:0 @3 4 | ; made 0, state 0", 0},
		simply("zero 2", "0 1", "0"), simply("zero 2", "-1", ""), simply("zero 0", "2147483647", ""),
		{"goto 2", "1 0", 0, "0.0:2 @3 4 | 1 0; made 0, state 0", 0},
		{"goto 0", "", 0, "0.0:0 @3 4 | ; made 0, state 0", 0},
		simply("same", "@8 @8", "1"), simply("same", "@8 @9", "0"), simply("same", "7 @0 @0", "7 1"), simply("same", "@0 @8", "0"), simply("same", "@8 @0", "0"),
		simply("enter", "1 @8", "1"), simply("exit", "1 @8", "1"), simply("start", "1 @8", "1"), simply("join", "1 @8", "1"),
		{"print", "1 5", 0, "0.0:1 @3 4 | 1; made 0, state 0", 5}, {"print", "-2147483648", 0, "0.0:1 @3 4 | ; made 0, state 0", -2147483648},
		{"print", "0", 0, "0.0:1 @3 4 | ; made 0, state 0", 0},
		{"return", "1 5", 0, "; made 0, state 1", 0}, {"return", "@8", 0, "; made 0, state 1", 0},
		simply("pop", "1 @2", "1"), simply("pop", "@0", ""),
		simply("dup", "1 @2", "1 @2 @2"), simply("dup", "5", "5 5"),
		simply("less", "1 2", "1"), simply("less", "2 1", "0"), simply("less", "2 2", "0"), simply("less", "9 -2 -1", "9 1"), simply("less", "-1 -2", "0"),
		simply("less", "-2147483648 2147483647", "1"),
	})
}

func TestLocalOfWordsThatGoRound(t *testing.T) {
	wantOps(t, []opCase{
		simply("add", "2147483647 1", "-2147483648"), simply("add", "-2147483648 -1", "2147483647"), simply("add", "2147483647 2147483647", "-2"),
		simply("add", "-2147483648 -2147483648", "0"), simply("add", "2147483647 0", "2147483647"), simply("add", "2147483647 -2147483648", "-1"),
		simply("sub", "-2147483648 1", "2147483647"), simply("sub", "2147483647 -1", "-2147483648"), simply("sub", "0 -2147483648", "-2147483648"),
		simply("sub", "-1 2147483647", "-2147483648"), simply("sub", "2147483647 -2147483648", "-1"), simply("sub", "-2147483648 2147483647", "1"),
		simply("mul", "65536 65536", "0"), simply("mul", "65536 32768", "-2147483648"), simply("mul", "65536 -32768", "-2147483648"),
		simply("mul", "-2147483648 -1", "-2147483648"), simply("mul", "-2147483648 -2147483648", "0"), simply("mul", "2147483647 2147483647", "1"),
		simply("mul", "2147483647 2", "-2"), simply("mul", "2147483647 -2147483648", "-2147483648"), simply("mul", "46341 46341", "-2147479015"),
	})
}

// An object is reckoned with, printed and asked for 0 by its number; it is not the same as a word, whatever the number.
func TestLocalOfObjectsAsWords(t *testing.T) {
	wantOps(t, []opCase{
		simply("same", "5 @5", "0"), simply("same", "@5 5", "0"), simply("same", "0 @0", "0"), simply("same", "@0 0", "0"), simply("same", "5 5", "1"), simply("same", "5 6", "0"), simply("same", "0 0", "1"),
		simply("add", "@5 @6", "11"), simply("add", "@5 6", "11"), simply("add", "5 @6", "11"), simply("add", "2147483647 @1", "-2147483648"),
		simply("sub", "@5 @6", "-1"), simply("sub", "@1000000 1", "999999"), simply("sub", "-2147483648 @1", "2147483647"),
		simply("mul", "@1000000 @1000000", "-727379968"), simply("mul", "@3 -2", "-6"),
		simply("less", "@5 6", "1"), simply("less", "@6 @5", "0"), simply("less", "-1 @0", "1"), simply("less", "@5 @5", "0"),
		{"zero 2", "@0", 0, "0.0:2 @3 4 | ; made 0, state 0", 0}, simply("zero 2", "@1", ""), simply("zero 2", "@1000000", ""),
		{"print", "@0", 0, "0.0:1 @3 4 | ; made 0, state 0", 0}, {"print", "1 @17", 0, "0.0:1 @3 4 | 1; made 0, state 0", 17},
		{"print", "@1000000", 0, "0.0:1 @3 4 | ; made 0, state 0", 1000000},
	})
}

// handCases: each op that has something at hand, with what is above that on the stack.
var handCases = []struct{ op, above string }{
	{"get Main.n", ""}, {"enter", ""}, {"exit", ""}, {"start", ""}, {"join", ""},
	{"put Main.n", " 5"}, {"put Main.next", " @9"}, {"put Main.next", " @0"}, {"call Main.get", ""}, {"call Main.put", " 5 @9"}, {"call Main.put", " @0 @0"},
}

func TestHandOfEachOp(t *testing.T) {
	for _, x := range handCases {
		p := opProg(t, x.op)
		for _, hand := range []int{0, 1, 3, 17, impl.MaxId} {
			for _, below := range []string{"", "7 ", "@7 ", "@0 0 "} {
				th := oneFrame("@3 4", below+tellVals([]impl.Val{refVal(hand)})+x.above)
				wantTurn(t, p, th, 0)
				if id, ok := impl.Hand(p, th); !ok || id != hand {
					t.Errorf("%s: Hand of %s is %d, %v", x.op, tellThread(th), id, ok)
				}
			}
		}
		// A word where an object should be at hand: nothing is, and nothing is done.
		for _, word := range []string{"0", "5", "3", "-1", "2147483647"} {
			for _, below := range []string{"", "@7 ", "@7 @8 "} {
				th := oneFrame("@3 4", below+word+x.above)
				if id, ok := impl.Hand(p, th); ok || id != 0 {
					t.Errorf("%s: Hand of %s is %d, %v", x.op, tellThread(th), id, ok)
				}
				wantUndone(t, p, th)
			}
		}
	}
	// Where an op has nothing at hand.
	for _, op := range []string{"push 1", "const 70000", "load 0", "store 0", "add", "sub", "mul", "null", "new Far", "zero 0", "goto 0", "same", "print", "return", "pop", "dup", "less"} {
		p := opProg(t, op)
		for _, stack := range []string{"", "@8", "@8 @9", "5 @9", "@8 5", "@1 @2 @3 @4 @5 @6"} {
			th := oneFrame("@3 4", stack)
			wantTurn(t, p, th, 0)
			if id, ok := impl.Hand(p, th); ok || id != 0 {
				t.Errorf("%s: Hand of %s is %d, %v", op, tellThread(th), id, ok)
			}
		}
	}
}

// wantStopped: the state is another one, and all else is as it was.
func wantStopped(t *testing.T, p impl.Prog, th impl.Thread, class, state int) {
	t.Helper()
	want := cloneThread(th)
	want.State = state
	got, printed, ok := impl.Local(p, th, class)
	if !ok || printed != 0 || !sameThread(got, want) || !impl.ThreadOk(p, got) {
		t.Errorf("Local of %s with class %d is %s, %d, %v in place of state %d", tellThread(th), class, tellThread(got), printed, ok, state)
	}
	wantTurn(t, p, th, class)
	wantStill(t, p, got)
}

func TestLocalOfNullAtHand(t *testing.T) {
	for _, x := range handCases {
		p := opProg(t, x.op)
		for _, below := range []string{"", "7 ", "@7 ", "@7 8 "} {
			for _, class := range []int{0, 1, 2, 3, 5, 6, -1} {
				th := oneFrame("@3 4", below+"@0"+x.above)
				th.Made = 4
				wantStopped(t, p, th, class, impl.TdNull)
				// With frames below it, also where there are MaxFrames of them.
				for _, frames := range []int{2, 8} {
					deep := deepThread(frames)
					deep.Frames[frames-1] = th.Frames[0]
					wantStopped(t, p, deep, class, impl.TdNull)
				}
			}
		}
	}
}

// The method that is called is that of the class of what is at hand; the frame's Kind is its Owner.
func TestLocalCallsWhatTheClassHas(t *testing.T) {
	behind := func(called string) string { return "0.0:1 @3 4 | 1; " + called + " | ; made 0, state 0" }
	wantOps(t, []opCase{
		{"call Main.get", "1 @8", 0, behind("0.1:0 @8"), 0},
		{"call Main.get", "1 @8", 1, behind("1.1:0 @8 0"), 0},
		{"call Main.get", "1 @8", 2, behind("1.1:0 @8 0"), 0},
		{"call Kid.get", "1 @8", 0, behind("0.1:0 @8"), 0},
		{"call Far.get", "1 @8", 1, behind("1.1:0 @8 0"), 0},
		{"call Main.run", "1 @8", 1, behind("0.0:0 @8 0"), 0},
		{"call Main.run", "1 @8", 2, behind("2.0:0 @8 0 0 0"), 0},
		{"call Main.put", "1 @8 5 @9", 2, behind("0.2:0 @8 5 @9 0"), 0},
		{"call Far.put", "1 @8 5 @9", 1, behind("0.2:0 @8 5 @9 0"), 0},
		// A class that is no kin of the one that the const names, with a method of that name, with as many Params; at another place than the other one.
		{"call Main.get", "1 @8", 5, behind("5.2:0 @8 0 0 0 0 0"), 0},
		{"call Main.put", "1 @8 5 @9", 5, behind("5.0:0 @8 5 @9"), 0},
		{"call Odd.run", "1 @8", 0, behind("0.0:0 @8 0"), 0},
		{"call Main.run", "1 @8", 4, behind("4.0:0 @8"), 0},
		{"call Bent.run", "1 @8 6", 5, behind("5.1:0 @8 6"), 0},
		{"call Lone.get", "1 @8 6", 3, behind("3.0:0 @8 6"), 0},
	})
}

func TestLocalOfACallThatIsNotThere(t *testing.T) {
	for _, x := range []struct {
		op, stack string
		classes   []int
	}{
		// Lone's get has a Param more, its put one less, Odd has neither; Bent's run has one more than Main's.
		{"call Main.get", "1 @8", []int{3, 4}}, {"call Main.put", "1 @8 5 @9", []int{3, 4}}, {"call Main.run", "1 @8", []int{3, 5}},
		{"call Lone.get", "1 @8 5", []int{0, 1, 2, 4, 5}}, {"call Lone.put", "1 @8 5", []int{0, 1, 2, 4, 5}}, {"call Bent.run", "1 @8 5", []int{0, 1, 2, 3, 4}},
		{"call Odd.own", "@8", []int{0, 1, 2, 3, 5}},
	} {
		p := opProg(t, x.op)
		for _, class := range append(append(edgeNumbers(), 6, 7, 256, 1<<32+1), x.classes...) {
			wantStopped(t, p, oneFrame("@3 4", x.stack), class, impl.TdNull)
			// It is TdNull, not TdDeep, where both hold.
			deep := deepThread(8)
			deep.Frames[7] = oneFrame("@3 4", x.stack).Frames[0]
			wantStopped(t, p, deep, class, impl.TdNull)
		}
	}
}

func TestLocalOfManyFrames(t *testing.T) {
	for _, x := range []struct{ op, stack string }{{"call Main.get", "1 @8"}, {"call Main.put", "@8 5 @9"}, {"call Main.run", "1 2 3 4 5 @8"}} {
		p := opProg(t, x.op)
		for frames := 1; frames <= 8; frames++ {
			th := deepThread(frames)
			th.Frames[frames-1] = oneFrame("@3 4", x.stack).Frames[0]
			for class := range 3 {
				if frames == 8 {
					wantStopped(t, p, th, class, impl.TdDeep)
					continue
				}
				got, ok := wantTurn(t, p, th, class)
				if !ok || got.State != impl.TdRun || len(got.Frames) != frames+1 || got.Frames[frames].Pc != 0 || got.Frames[frames-1].Pc != 1 {
					t.Errorf("%s with %d frames: %s", x.op, frames, tellThread(got))
				}
				for i := range frames - 1 {
					if !sameFrame(got.Frames[i], th.Frames[i]) {
						t.Errorf("%s with %d frames: frame %d is %+v", x.op, frames, i, got.Frames[i])
					}
				}
			}
		}
	}
}

// A method that calls itself, up to as many frames as there may be.
func TestAThreadThatGoesTooDeep(t *testing.T) {
	p := threadProg(t, 1, "load 0; call Main.run; return")
	th, _ := impl.ThreadNew(p, 3, 1)
	for n := 1; n <= 8; n++ {
		if th, _ = wantTurn(t, p, th, 0); len(th.Frames) != n || th.State != impl.TdRun {
			t.Fatalf("%d: %s", n, tellThread(th))
		}
		if n == 8 {
			wantStopped(t, p, th, 1, impl.TdDeep)
			break
		}
		if th, _ = wantTurn(t, p, th, 1); len(th.Frames) != n+1 || th.State != impl.TdRun {
			t.Fatalf("%d: %s", n, tellThread(th))
		}
	}
}

func TestLocalReturns(t *testing.T) {
	p := opProg(t, "return")
	for _, stack := range []string{"5", "@8", "@0", "1 @2 -5", "1 2 3 4 5 @6"} {
		vals := valsOf(stack)
		last := vals[len(vals)-1]
		for frames := 1; frames <= 8; frames++ {
			for below := range 7 {
				th := deepThread(frames)
				th.Made = 7
				if frames > 1 {
					th.Frames[frames-2].Stack = stackOf(below)
				}
				th.Frames[frames-1] = oneFrame("@3 4", stack).Frames[0]
				want := cloneThread(th)
				want.Frames = want.Frames[:frames-1]
				if frames == 1 {
					want.State = impl.TdEnd
				} else if below < 6 {
					want.Frames[frames-2].Stack = append(want.Frames[frames-2].Stack, last)
				}
				got, printed, ok := impl.Local(p, th, 0)
				if !ok || printed != 0 || !sameThread(got, want) {
					t.Errorf("Local of %s is %s, %d, %v", tellThread(th), tellThread(got), printed, ok)
				}
				wantTurn(t, p, th, 0)
			}
		}
	}
	// Without a value nothing is returned.
	wantUndone(t, p, oneFrame("@3 4", ""))
	deep := deepThread(4)
	deep.Frames[3] = oneFrame("@3 4", "").Frames[0]
	wantUndone(t, p, deep)
}

// What a thread makes has the numbers behind 16 times its own: MaxMade of them, and none above MaxId.
func TestLocalMakes(t *testing.T) {
	p := opProg(t, "new Kid")
	for _, x := range []struct{ id, made, number int }{
		{1, 0, 17}, {1, 14, 31}, {2, 0, 33}, {3, 4, 53}, {17, 0, 273}, {62499, 14, 999999}, {62499, 0, 999985},
		// 62500 times 16 is MaxId: what is behind it is above.
		{62500, 0, 0}, {62500, 14, 0}, {62501, 0, 0}, {impl.MaxId, 0, 0}, {impl.MaxId, 14, 0}, {1, 15, 0}, {62499, 15, 0}, {impl.MaxId, 15, 0},
	} {
		for _, stack := range []string{"", "@1 5", "1 2 3 4 5 6"} {
			th := oneFrame("@3 4", stack)
			th.Id, th.Made = x.id, x.made
			if x.number == 0 {
				wantStopped(t, p, th, 0, impl.TdRoom)
				continue
			}
			got, ok := wantTurn(t, p, th, 0)
			behind := valsOf(stack)
			if len(behind) < 6 {
				behind = append(behind, refVal(x.number))
			}
			if !ok || got.Made != x.made+1 || got.State != impl.TdRun || got.Frames[0].Pc != 1 || !slices.Equal(got.Frames[0].Stack, behind) {
				t.Errorf("%d that made %d: %s", x.id, x.made, tellThread(got))
			}
		}
	}
}

// Each number that a thread makes is another one, up to the last.
func TestLocalMakesAllThatThereAre(t *testing.T) {
	p := threadProg(t, 1, "new Kid; pop; goto 0")
	for _, id := range []int{1, 2, 100, 62499} {
		th, _ := impl.ThreadNew(p, id, 0)
		for n := 1; n <= 15; n++ {
			th, _ = wantTurn(t, p, th, 0)
			if th.Made != n || len(th.Frames[0].Stack) != 1 || th.Frames[0].Stack[0] != refVal(16*id+n) {
				t.Fatalf("%d, %d: %s", id, n, tellThread(th))
			}
			th, _ = wantTurn(t, p, th, 0)
			th, _ = wantTurn(t, p, th, 0)
		}
		wantStopped(t, p, th, 0, impl.TdRoom)
	}
}

// The number that is just MaxId would be the sixteenth that object 62499 makes, one more than MaxMade: it is TdRoom, as all above it are.
func TestLocalMakesUpToTheGreatestNumber(t *testing.T) {
	p := opProg(t, "new Kid")
	for id := 62490; id <= 62510; id++ {
		for made := range 16 {
			th := oneFrame("@3 4", "")
			th.Id, th.Made = id, made
			got, _ := wantTurn(t, p, th, 0)
			if is := 16*id+made+1 <= impl.MaxId && made < 15; (got.State == impl.TdRun) != is || (got.State == impl.TdRoom) == is {
				t.Errorf("%d that made %d: %s", id, made, tellThread(got))
			}
		}
	}
}

// Where the stack has MaxStack, what would be put is not; all else is done.
func TestLocalWithAFullStack(t *testing.T) {
	const full = "1 @2 3 @4 5 6"
	wantOps(t, []opCase{
		simply("push 7", full, full), simply("const 70000", full, full), simply("load 0", full, full), simply("null", full, full), simply("dup", full, full),
		{"new Kid", full, 0, "0.0:1 @3 4 | " + full + "; made 1, state 0", 0},
		// One that takes as many as it puts, or more, has room.
		simply("add", full, "1 @2 3 @4 11"), simply("sub", full, "1 @2 3 @4 -1"), simply("mul", full, "1 @2 3 @4 30"), simply("less", full, "1 @2 3 @4 1"), simply("same", full, "1 @2 3 @4 0"),
		simply("get Main.n", "1 2 3 4 5 @6", "1 2 3 4 5"), simply("put Main.n", "1 2 3 4 @5 6", "1 2 3 4"), simply("pop", full, "1 @2 3 @4 5"),
		{"store 1", full, 0, "0.0:1 @3 6 | 1 @2 3 @4 5; made 0, state 0", 0},
		{"print", full, 0, "0.0:1 @3 4 | 1 @2 3 @4 5; made 0, state 0", 6},
		{"goto 2", full, 0, "0.0:2 @3 4 | " + full + "; made 0, state 0", 0},
		{"call Main.get", "1 2 3 4 5 @6", 0, "0.0:1 @3 4 | 1 2 3 4 5; 0.1:0 @6 | ; made 0, state 0", 0},
		// One that is not full yet.
		simply("push 7", "1 2 3 4 5", "1 2 3 4 5 7"), simply("const 70000", "1 2 3 4 5", "1 2 3 4 5 70000"), simply("load 0", "1 2 3 4 5", "1 2 3 4 5 @3"),
		simply("null", "1 2 3 4 5", "1 2 3 4 5 @0"), simply("dup", "1 2 3 4 @5", "1 2 3 4 @5 @5"),
		{"new Kid", "1 2 3 4 5", 0, "0.0:1 @3 4 | 1 2 3 4 5 @49; made 1, state 0", 0},
	})
}

// opsByWants: ops by how many values they take.
var opsByWants = [][]string{
	{"push 1", "const 70000", "load 0", "null", "new Far", "goto 0"},
	{"store 0", "get Main.n", "call Main.get", "zero 0", "enter", "exit", "print", "return", "start", "join", "pop", "dup"},
	{"add", "sub", "mul", "put Main.n", "same", "less", "call Lone.get"},
	{"call Main.put"},
}

func TestLocalOfTooFewValues(t *testing.T) {
	classes := map[string]int{"call Lone.get": 3}
	for wants, ops := range opsByWants {
		for _, op := range ops {
			p := opProg(t, op)
			for n := range 7 {
				th := impl.Thread{Id: 3, Frames: []impl.Frame{{Locals: valsOf("@3 4"), Stack: slices.Repeat(valsOf("@8"), n)}}}
				if n < wants {
					wantUndone(t, p, th)
					if id, ok := impl.Hand(p, th); ok || id != 0 {
						t.Errorf("%s with %d values: Hand is %d, %v", op, n, id, ok)
					}
				}
				got, ok := wantTurn(t, p, th, classes[op])
				if ok != (n >= wants) || ok && got.State > impl.TdEnd {
					t.Errorf("%s with %d values: %s, %v", op, n, tellThread(got), ok)
				}
				// What a frame below has does not count.
				deep := deepThread(4)
				deep.Frames[2].Stack, deep.Frames[3] = stackOf(6), th.Frames[0]
				if _, ok := wantTurn(t, p, deep, classes[op]); ok != (n >= wants) {
					t.Errorf("%s with %d values above others: %v", op, n, ok)
				}
			}
		}
	}
}

func TestLocalOfLocalsThatAreNone(t *testing.T) {
	for locals := 1; locals <= 6; locals++ {
		for n := range 6 {
			for _, op := range []string{"load", "store"} {
				p := threadProg(t, locals, fmt.Sprintf("%s %d; push 0; return", op, n))
				th := oneFrame("", "7 @8")
				th.Frames[0].Locals = valsOf("11 @12 13 @14 15 @16")[:locals]
				_, ok := wantTurn(t, p, th, 0)
				if ok != (n < locals) {
					t.Errorf("%s %d of %d locals: %v", op, n, locals, ok)
				}
				if !ok {
					wantUndone(t, p, th)
				}
			}
		}
	}
}

// constProg's run begins with an op that refers to a const of Main's pool, where Kid's and Lone's pools have others.
func constProg(t *testing.T, op, n int) impl.Prog {
	t.Helper()
	p := threadProg(t, 2, "const 5; push 0; return")
	p.Kinds[0].Pool = []impl.Const{intConst(5), classConst("Kid"), fieldConst("Main", "n"), callConst("Main", "get"), intConst(-9)}
	for k := range 2 {
		p.Kinds[k].Methods[0].List[0] = ins(op, n)
	}
	if !progRight(p) {
		t.Fatalf("%+v is not right", p)
	}
	return p
}

// A place has its const from the pool of the method's Owner; where there is none of the kind that its op wants, no place comes.
func TestNowOfConsts(t *testing.T) {
	kinds := map[int]int{impl.OpConst: impl.PlInt, impl.OpNew: impl.PlClass, impl.OpGet: impl.PlField, impl.OpPut: impl.PlField, impl.OpCall: impl.PlCall}
	for op, kind := range kinds {
		for n := range impl.MaxPool {
			p := constProg(t, op, n)
			th := oneFrame("@3 4", "@8 @9")
			wantTurn(t, p, th, 0)
			in, k, ok := impl.Now(p, th)
			is := n < 5 && p.Kinds[0].Pool[n].Kind == kind
			if ok != is {
				t.Fatalf("op %d, const %d: Now is %+v, %+v, %v", op, n, in, k, ok)
			}
			if !is {
				wantStill(t, p, th)
			} else if in != ins(op, n) || k != p.Kinds[0].Pool[n] {
				t.Fatalf("op %d, const %d: Now is %+v, %+v", op, n, in, k)
			}
		}
	}
	// Without an op that refers to one there is none, whatever N is.
	for _, op := range []string{"push 0", "push 1", "load 0", "load 1", "store 1", "zero 0", "zero 2", "goto 1", "add", "enter", "return", "dup"} {
		p := opProg(t, op)
		p.Kinds[0].Pool = []impl.Const{intConst(5), classConst("Kid"), fieldConst("Main", "n")}
		in, k, ok := impl.Now(p, oneFrame("@3 4", ""))
		if !ok || k != (impl.Const{}) || in != p.Kinds[0].Methods[0].List[0] {
			t.Errorf("%s: Now is %+v, %+v, %v", op, in, k, ok)
		}
	}
}

// Far's get is Kid's: its const at place 0 is one of Kid's pool, not of Main's, whose object it may be called from.
func TestNowOfAMethodFromAbove(t *testing.T) {
	p := threadProg(t, 2, journey)
	th := oneFrame("@3 4", "")
	th.Frames = append(th.Frames, impl.Frame{Kind: 1, Method: 1, Pc: 1, Locals: valsOf("@8 0"), Stack: valsOf("@8")})
	if in, k, ok := impl.Now(p, th); !ok || in != ins(impl.OpGet, 0) || k != fieldConst("Main", "n") || p.Kinds[0].Pool[0] == k {
		t.Errorf("%+v, %+v, %v", in, k, ok)
	}
	wantTurn(t, p, th, 2)
}

// Now, Hand and Local of a thread that is wrong in each way: nothing comes, nothing is at hand, and it is as it was.
func TestTurnsOfWrongThreads(t *testing.T) {
	for _, op := range []string{"push 1", "get Main.n", "call Main.get", "new Far", "print", "return", "goto 0"} {
		p := threadProg(t, 2, op+"; push 0; return")
		for _, x := range wrongThreadTurns() {
			th := x.of(deepThread(3))
			wantStill(t, p, th)
			// Where what is wrong is in a frame below.
			th.Frames = append(th.Frames, oneFrame("@3 4", "@8 @8").Frames[0])
			if !threadRight(p, th) {
				wantStill(t, p, th)
			}
		}
		wantStill(t, p, impl.Thread{})
		// What is right, but does not run, with frames and without.
		for state := impl.TdEnd; state <= impl.TdRoom; state++ {
			for _, frames := range []int{0, 1, 3, 8} {
				th := deepThread(frames)
				th.State = state
				if !impl.ThreadOk(p, th) {
					t.Errorf("%s is not right", tellThread(th))
				}
				wantStill(t, p, th)
			}
		}
	}
}

func TestTurnsOfWrongPrograms(t *testing.T) {
	p := threadProg(t, 2, "push 1; return")
	list := append(wrongTurns(p), twistedProgs()...)
	if len(list) < 500 {
		t.Errorf("%d wrong programs", len(list))
	}
	for _, q := range append(list, impl.Prog{}) {
		for class := -1; class <= 6; class++ {
			wantNoNew(t, q, 1, class)
		}
		for _, th := range []impl.Thread{oneFrame("@3 4", "@8"), deepThread(3), {Id: 3, State: impl.TdEnd}} {
			wantStill(t, q, th)
		}
	}
}

func TestGive(t *testing.T) {
	vals := []impl.Val{wordVal(0), wordVal(5), wordVal(-1 << 31), wordVal(1<<31 - 1), refVal(0), refVal(5), refVal(impl.MaxId)}
	p := threadProg(t, 2, "push 0; return")
	for _, v := range vals {
		for frames := range 9 {
			for n := range 7 {
				for state := range 6 {
					th := deepThread(frames)
					th.State, th.Made = state, n
					if frames > 0 {
						th.Frames[frames-1].Stack = stackOf(n)
					}
					want := cloneThread(th)
					if frames > 0 && n < 6 {
						want.Frames[frames-1].Stack = append(stackOf(n), v)
					}
					got := impl.Give(th, v)
					if !sameThread(got, want) || impl.ThreadOk(p, th) != impl.ThreadOk(p, got) {
						t.Fatalf("Give of %s and %+v is %s", tellThread(th), v, tellThread(got))
					}
				}
			}
		}
	}
	// Where there is no frame, and where the stack has more than it may have, a thread is as it was, however wrong it is.
	for _, th := range []impl.Thread{{}, {Id: -1, State: 9, Made: 99}, {Id: 3, Frames: []impl.Frame{}}, {Id: 3, Frames: []impl.Frame{{Kind: -5, Stack: stackOf(7)}}}, {Frames: []impl.Frame{{Stack: stackOf(1)}, {Stack: stackOf(300)}}}} {
		if got := impl.Give(th, wordVal(5)); !sameThread(got, th) {
			t.Errorf("Give of %+v is %+v", th, got)
		}
	}
	wrong := impl.Thread{Id: -1, State: 9, Made: 99, Frames: []impl.Frame{{Kind: -5, Stack: stackOf(9)}, {Method: 77, Pc: -1, Locals: stackOf(9), Stack: valsOf("1")}}}
	if got := impl.Give(wrong, refVal(6)); !sameThread(got, giveThere(wrong, refVal(6))) || tellVals(got.Frames[1].Stack) != "1 @6" {
		t.Errorf("Give of %+v is %+v", wrong, got)
	}
}

// dealtProg has pools with each kind of const in each class that has a method, to be given places.
func dealtProg(t *testing.T) impl.Prog {
	t.Helper()
	p := threadProg(t, 3, "push 0; return")
	calls := []impl.Const{callConst("Main", "get"), callConst("Main", "put"), callConst("Kid", "get"), callConst("Far", "run"), callConst("Lone", "get"), callConst("Odd", "own")}
	for k := range p.Kinds {
		p.Kinds[k].Pool = append([]impl.Const{intConst(70000 + k), classConst("Far"), fieldConst("Main", "n"), fieldConst("Kid", "far"), intConst(-1 << 31)}, calls[k:]...)
		p.Kinds[k].Pool = append(p.Kinds[k].Pool, calls[:k]...)
	}
	return p
}

// withCode gives a method of a class these places, in each class that has it from there.
func withCode(p impl.Prog, owner int, name string, list []impl.Ins) {
	for k := range p.Kinds {
		if at := codeAt(p.Kinds[k].Methods, name); at >= 0 && p.Kinds[k].Methods[at].Owner == owner {
			p.Kinds[k].Methods[at].List = slices.Clone(list)
		}
	}
}

// somePlace is one that may be checked or not: now and then its const is of another kind, or none, or its local is none.
func (d *dice) somePlace(places int) impl.Ins {
	op := 1 + d.below(26)
	if op > impl.OpLess {
		op = impl.OpCall
	}
	right := map[int][]int{impl.OpConst: {0, 4}, impl.OpNew: {1}, impl.OpGet: {2, 3}, impl.OpPut: {2, 3}, impl.OpCall: {5, 6, 7, 8, 9, 10}}[op]
	switch {
	case right != nil && d.below(12) > 0:
		return ins(op, right[d.below(len(right))])
	case right != nil:
		return ins(op, d.below(13))
	case op == impl.OpPush:
		return push(d.below(256) - 128)
	case op == impl.OpLoad || op == impl.OpStore:
		return ins(op, min(d.below(6), d.below(6)))
	case isJump(op):
		return ins(op, d.below(places))
	}
	return bare(op)
}

// dealt is a program with some places in each of its methods; what they do is mostly wrong, and nobody has checked it.
func (d *dice) dealt(base impl.Prog) impl.Prog {
	p := cloneProg(base)
	for k := range p.Kinds {
		for _, m := range p.Kinds[k].Methods {
			if m.Owner != k {
				continue
			}
			var list []impl.Ins
			for places := 4 + d.below(9); len(list) < places; {
				list = append(list, d.somePlace(places))
			}
			list[len(list)-1] = []impl.Ins{ret(), jump(d.below(len(list)))}[d.below(2)]
			withCode(p, k, m.Name, list)
		}
	}
	return p
}

func (d *dice) someVal() impl.Val {
	switch d.below(10) {
	case 0:
		return refVal(0)
	case 1:
		return wordVal([]int{0, 1, -1, 1<<31 - 1, -1 << 31, 46341, 65536}[d.below(7)])
	case 2, 3:
		return wordVal(d.below(1<<16) * (d.below(1<<16) - 1<<15))
	case 4:
		return refVal([]int{1, impl.MaxId, 17, 2}[d.below(4)])
	}
	return refVal(1 + d.below(9))
}

func (d *dice) someVals(n int) []impl.Val {
	var list []impl.Val
	for range n {
		list = append(list, d.someVal())
	}
	return list
}

// someThread is right; most run.
func (d *dice) someThread(p impl.Prog) impl.Thread {
	t := impl.Thread{Id: []int{1, 2, 3, 17, 62499, 62500, impl.MaxId}[d.below(7)], Made: []int{0, 1, 14, 15}[d.below(4)]}
	for many := 1 + max(d.below(8), d.below(8)); len(t.Frames) < many; {
		k := d.below(len(p.Kinds))
		m := d.below(max(len(p.Kinds[k].Methods), 1))
		x := placeBook{p, k, m}
		if x.there() && x.code().Owner == k {
			t.Frames = append(t.Frames, impl.Frame{Kind: k, Method: m, Pc: d.below(len(x.code().List)), Locals: d.someVals(x.code().Locals), Stack: d.someVals(d.below(7))})
		}
	}
	if d.below(20) == 0 {
		t.State = 1 + d.below(5)
	}
	return t
}

// P14, of threads of all sorts at places of all sorts: what the test's own tells; each op is done, is not done, and stops a thread where it can.
func TestLocalOfManyThreads(t *testing.T) {
	t.Parallel()
	d := dice(141)
	base := dealtProg(t)
	var done, undone, stopped [25][6]int
	for range 400 {
		p := d.dealt(base)
		if !progRight(p) {
			t.Fatalf("%+v is not right", p)
		}
		for range 40 {
			th := d.someThread(p)
			got, ok := wantTurn(t, p, th, []int{d.below(3), d.below(8) - 1}[d.below(2)])
			x, _ := nowThere(p, th)
			switch {
			case !ok:
				undone[x.in.Op][0]++
			case got.State > impl.TdEnd:
				stopped[x.in.Op][got.State]++
			default:
				done[x.in.Op][got.State]++
			}
			v := d.someVal()
			if given := impl.Give(th, v); !sameThread(given, giveThere(th, v)) || !impl.ThreadOk(p, given) {
				t.Fatalf("Give of %+v and %+v is %+v", th, v, given)
			}
		}
	}
	for op := impl.OpPush; op <= impl.OpLess; op++ {
		if done[op][impl.TdRun]+done[op][impl.TdEnd] < 100 {
			t.Errorf("op %d is done %v times", op, done[op])
		}
		if slices.Contains(handedOps, op) && stopped[op][impl.TdNull] < 20 {
			t.Errorf("op %d is stopped %v times", op, stopped[op])
		}
	}
	if done[impl.OpReturn][impl.TdEnd] < 20 || stopped[impl.OpCall][impl.TdDeep] < 20 || stopped[impl.OpNew][impl.TdRoom] < 100 || undone[impl.OpLoad][0] < 20 || undone[impl.OpAdd][0] < 50 {
		t.Errorf("%v, %v, %v", done, stopped, undone)
	}
}

// P14, of threads that go on: from the beginning on, whatever is called and given, they stay right until nothing is done any more.
func TestThreadsThatGoOnStayRight(t *testing.T) {
	t.Parallel()
	d := dice(142)
	base := dealtProg(t)
	var states [6]int
	steps := 0
	for range 600 {
		p := d.dealt(base)
		class := d.below(3)
		th, ok := impl.ThreadNew(p, 1+d.below(70000), class)
		for n, tries := 0, 0; ok && n < 80 && tries < 7; n++ {
			in, _, _ := impl.Now(p, th)
			does := false
			if th, does = wantTurn(t, p, th, d.below(3)); does {
				steps, tries = steps+1, 0
			} else {
				tries++
			}
			// Where nothing was done there may be too few values.
			if !does || in.Op == impl.OpGet {
				th = impl.Give(th, d.someVal())
			}
			if !impl.ThreadOk(p, th) {
				t.Fatalf("%+v: %+v", p, th)
			}
		}
		states[th.State]++
	}
	if steps < 5000 || states[impl.TdEnd] < 20 || states[impl.TdNull] < 20 || states[impl.TdRoom] < 5 {
		t.Errorf("%d steps, %v", steps, states)
	}
}

// What was checked goes on to its end, or stops: with values that are by what was known, and the classes that are told, no place is undone.
func TestThreadsOfWhatIsChecked(t *testing.T) {
	t.Parallel()
	d := dice(143)
	base := walkProg(t)
	var states [6]int
	checked, steps := 0, 0
	for range 900 {
		list := d.someRun()
		if !codeRight(list) {
			continue
		}
		p := withRun(base, list)
		if code, _, _ := impl.Verify(p); code != impl.VrDone {
			continue
		}
		checked++
		class := d.below(4)
		th, _ := impl.ThreadNew(p, 3, class)
		classes := map[int]int{3: class}
		for n := 0; th.State == impl.TdRun && n < 80; n++ {
			in, k, comes := impl.Now(p, th)
			id, _ := impl.Hand(p, th)
			made := th.Made
			var does bool
			if th, does = wantTurn(t, p, th, classes[id]); !comes || !does {
				t.Fatalf("%+v: nothing is done of %+v", p, th)
			}
			steps++
			if th.Made > made {
				classes[16*3+th.Made] = progBook(p).number(k.A)
			}
			if in.Op == impl.OpGet && th.State == impl.TdRun {
				th = impl.Give(th, map[bool]impl.Val{true: wordVal(n), false: refVal(0)}[k.B == "n"])
			}
		}
		states[th.State]++
	}
	if checked < 200 || steps < 4000 || states[impl.TdEnd] < 50 || states[impl.TdNull] < 20 {
		t.Errorf("%d checked, %d steps, %v", checked, steps, states)
	}
}

// Each program that is one turn away from another, with a thread that its code may no more go with.
func TestTurnsOfTurnedPrograms(t *testing.T) {
	p := threadProg(t, 2, "load 0; call Main.get; print; push 0; return")
	for _, q := range listTurns(p) {
		for _, th := range []impl.Thread{oneFrame("@3 4", "@8"), deepThread(2), deepThread(8)} {
			for pc := range 5 {
				th.Frames[0].Pc = pc
				wantTurn(t, q, th, pc-1)
			}
		}
	}
}

// P33: what is far too much is answered, too.
func TestThreadsThatAreFarTooGreat(t *testing.T) {
	t.Parallel()
	const many = 1 << 18
	p := threadProg(t, 2, "push 0; return")
	long := make([]impl.Val, many)
	frame := func(locals, stack []impl.Val) impl.Thread {
		return impl.Thread{Id: 3, Frames: []impl.Frame{{Locals: locals, Stack: stack}}}
	}
	list := []impl.Thread{
		frame(long, nil), frame(valsOf("@3 0"), long), frame(long, long), {Id: 3, Frames: make([]impl.Frame, many)}, {Id: 3, State: impl.TdEnd, Frames: make([]impl.Frame, many)},
		{Id: math.MinInt, State: math.MaxInt, Made: math.MinInt, Frames: slices.Repeat(deepThread(1).Frames, 1000)},
	}
	for _, th := range list {
		if impl.ThreadOk(p, th) {
			t.Fatal("ThreadOk")
		}
		wantStill(t, p, th)
		if !sameThread(impl.Give(th, wordVal(1)), giveThere(th, wordVal(1))) {
			t.Fatal("Give")
		}
	}
	places := slices.Repeat([]impl.Ins{jump(0)}, many)
	for _, q := range []impl.Prog{withRun(p, places), {Kinds: make([]impl.Kind, many)}, {Kinds: slices.Repeat(p.Kinds, many/8)}} {
		for range 20 {
			wantNoNew(t, q, 1, 0)
			wantStill(t, q, deepThread(3))
		}
	}
	// As many locals as a method has, however many it has: it is the program then that is not right.
	q := cloneProg(p)
	q.Kinds[0].Methods[0].Locals = many
	if th := frame(long, nil); !impl.ThreadOk(q, th) {
		t.Error("many locals")
	} else {
		wantStill(t, q, th)
	}
}

// threadsForMemory: right and wrong ones; in some two frames, or the two lists of one, are the same memory.
func threadsForMemory() []impl.Thread {
	list := []impl.Thread{{}, {Id: 3, State: impl.TdEnd}, oneFrame("@3 4", ""), oneFrame("@3 4", "@8"), oneFrame("@3 4", "@0"), oneFrame("@3 4", "8 9"), oneFrame("@3 4", "@8 5 @9"), oneFrame("@3 4", "1 2 3 4 @5 @6"), oneFrame("@3 4", "1 2 3 4 5 6 7")}
	for _, frames := range []int{2, 3, 7, 8, 9} {
		for _, stack := range []string{"", "@8", "1 @0", "1 @8 5 @9", "1 2 3 4 5 @6"} {
			deep := deepThread(frames)
			deep.Frames[frames-1] = oneFrame("@3 4", stack).Frames[0]
			list = append(list, deep)
		}
	}
	shared := deepThread(4)
	for i := range shared.Frames {
		shared.Frames[i] = shared.Frames[0]
	}
	twice := oneFrame("@3 @4", "")
	twice.Frames[0].Stack = twice.Frames[0].Locals
	list = append(list, shared, twice)
	full := deepThread(3)
	full.Made = impl.MaxMade
	ended := deepThread(3)
	ended.State = impl.TdNull
	return append(list, full, ended)
}

// roomyThread has spare room behind each of its lists, and wholeThread goes to the end of it.
func roomyThread(t impl.Thread) impl.Thread {
	t = cloneThread(t)
	for i, f := range t.Frames {
		t.Frames[i].Locals, _ = roomy(f.Locals, refVal(77))
		t.Frames[i].Stack, _ = roomy(f.Stack, wordVal(88))
	}
	spare := deepThread(1).Frames[0]
	t.Frames, _ = roomy(t.Frames, spare)
	return t
}

func wholeThread(t impl.Thread) impl.Thread {
	t.Frames = slices.Clone(t.Frames[:cap(t.Frames)])
	for i, f := range t.Frames {
		t.Frames[i].Locals, t.Frames[i].Stack = f.Locals[:cap(f.Locals)], f.Stack[:cap(f.Stack)]
	}
	return t
}

func spoilThread(t impl.Thread) {
	for _, f := range t.Frames[:cap(t.Frames)] {
		spoilAll(f.Locals, refVal(55))
		spoilAll(f.Stack, refVal(55))
	}
	spoilAll(t.Frames, impl.Frame{Kind: 55})
}

// threadApart: no two lists of a thread share memory, up to the end of their spare room.
func threadApart(t impl.Thread) bool {
	var lists [][]impl.Val
	for _, f := range t.Frames[:cap(t.Frames)] {
		lists = append(lists, f.Locals[:cap(f.Locals)], f.Stack[:cap(f.Stack)])
	}
	return marked(lists, func(v *impl.Val, n int) { v.N = n }, func(v impl.Val) int { return v.N })
}

// A threadAsk makes a thread of one.
type threadAsk struct {
	what string
	ask  func(p impl.Prog, t impl.Thread) impl.Thread
}

func threadAsks() []threadAsk {
	list := []threadAsk{
		{"Give", func(_ impl.Prog, t impl.Thread) impl.Thread { return impl.Give(t, refVal(6)) }},
		{"Give twice", func(_ impl.Prog, t impl.Thread) impl.Thread { return impl.Give(impl.Give(t, refVal(6)), wordVal(7)) }},
		{"ThreadNew", func(p impl.Prog, _ impl.Thread) impl.Thread { got, _ := impl.ThreadNew(p, 3, 2); return got }},
	}
	for _, class := range []int{0, 1, 4, -1} {
		list = append(list, threadAsk{fmt.Sprint("Local with class ", class), func(p impl.Prog, t impl.Thread) impl.Thread { got, _, _ := impl.Local(p, t, class); return got }})
	}
	return list
}

func progsForThreads(t *testing.T) []impl.Prog {
	var list []impl.Prog
	for _, ops := range opsByWants {
		for _, op := range ops {
			list = append(list, opProg(t, op))
		}
	}
	return append(list, opProg(t, "call Main.run"), opProg(t, "load 5"), impl.Prog{}, supersOf(1, 2, 0))
}

// P33: an answer shares no memory with a thread, nor with the program, nor with another answer, nor do two frames of it with each other.
func TestThreadsAreNewMemory(t *testing.T) {
	t.Parallel()
	for _, p := range progsForThreads(t) {
		for _, th := range threadsForMemory() {
			for _, x := range threadAsks() {
				given := roomyThread(th)
				if len(th.Frames) == 4 || len(th.Frames) == 1 {
					// As it stands, with what its frames share.
					given = th
				}
				were, whole := cloneThread(given), cloneThread(wholeThread(given))
				prog := roomyProg(p)
				first, second := x.ask(prog, given), x.ask(prog, given)
				want := cloneThread(second)
				if !threadApart(first) {
					t.Fatalf("two lists of what %s makes of %+v share memory", x.what, th)
				}
				spoilThread(first)
				if !sameThread(second, want) || !sameThread(given, were) || !sameThread(wholeThread(given), whole) || !sameProg(prog, p) {
					t.Fatalf("what %s makes of %+v shares memory", x.what, th)
				}
				spoilProg(prog)
				given = cloneThread(given)
				third := x.ask(cloneProg(p), given)
				spoilThread(given)
				if !sameThread(second, want) || !sameThread(third, want) {
					t.Fatalf("what %s makes of %+v shares memory with it", x.what, th)
				}
			}
		}
	}
}

// P33: a const that Now tells is no piece of the program's texts.
func TestNowIsNewMemory(t *testing.T) {
	asked := 0
	for _, p := range progsForThreads(t) {
		_, k, _ := impl.Now(p, oneFrame("@3 4", ""))
		for _, whole := range textsOfProg(p) {
			if pieceOf(whole, k.A) || pieceOf(whole, k.B) {
				t.Errorf("%+v shares memory with the program", k)
			}
		}
		if k.A != "" {
			asked++
		}
	}
	if asked < 5 {
		t.Errorf("%d asked", asked)
	}
}

// tellTurns: what the functions of this chapter answer to a program and a thread.
func tellTurns(p impl.Prog, th impl.Thread) string {
	in, k, comes := impl.Now(p, th)
	hand, handed := impl.Hand(p, th)
	told := fmt.Sprint(impl.ThreadOk(p, th), in, k, comes, hand, handed, tellThread(impl.Give(th, refVal(6))))
	for _, class := range []int{0, 1, 3, 5, -1} {
		got, printed, ok := impl.Local(p, th, class)
		told += fmt.Sprint("; ", got.Id, tellThread(got), printed, ok)
	}
	return told
}

// P33: neither the frames of a thread, nor their lists, nor the spare room behind them are written; what stands there does not count.
func TestThreadsAreNotWritten(t *testing.T) {
	for _, p := range progsForThreads(t) {
		for _, th := range threadsForMemory() {
			given := roomyThread(th)
			whole := cloneThread(wholeThread(given))
			if tellTurns(p, given) != tellTurns(p, cloneThread(th)) {
				t.Fatalf("%+v: an answer hangs on the room behind it", th)
			}
			if !sameThread(wholeThread(given), whole) || !sameThread(given, th) {
				t.Fatalf("%+v is written into", th)
			}
		}
	}
}

func tellThreads(p impl.Prog) string {
	var told strings.Builder
	for _, th := range threadsForMemory() {
		fmt.Fprintln(&told, tellTurns(p, th))
	}
	for class := -1; class <= 6; class++ {
		got, ok := impl.ThreadNew(p, 3, class)
		fmt.Fprintln(&told, got, ok)
	}
	return told.String()
}

// P33: neither the classes, nor their lists, nor the spare room behind them are written; what stands there does not count.
func TestThreadsWriteNoProgram(t *testing.T) {
	t.Parallel()
	list := progsForThreads(t)
	for i, p := range listTurns(opProg(t, "call Main.put")) {
		if i%8 == 0 {
			list = append(list, p)
		}
	}
	wantUnwritten(t, list, tellThreads)
}

func TestThreadsKeepNothing(t *testing.T) { wantToldAgain(t, progsForThreads(t)[20:], tellThreads) }
