package tests

import (
	"fmt"
	"math"
	"slices"
	"strings"
	"testing"

	"loop.example/g00283/impl"
)

func sameFlow(a, b impl.Flow) bool {
	return slices.Equal(a.Locals, b.Locals) && slices.Equal(a.Stack, b.Stack) && a.Held == b.Held
}

func cloneFlow(f impl.Flow) impl.Flow {
	f.Locals, f.Stack = slices.Clone(f.Locals), slices.Clone(f.Stack)
	return f
}

// typesOf writes types down by letters: t KdTop, i a word, n null, a digit a class.
func typesOf(letters string) []impl.Type {
	var list []impl.Type
	for _, r := range letters {
		at := strings.IndexRune("tin", r)
		if at >= 0 {
			list = append(list, []impl.Type{topType, intType, nullType}[at])
		} else {
			list = append(list, refType(int(r-'0')))
		}
	}
	return list
}

func flowOf(locals, stack string, held int) impl.Flow {
	return impl.Flow{Locals: typesOf(locals), Stack: typesOf(stack), Held: held}
}

// The places of flowProg's pools: of class Main, of Kid, and of Far: most of them have consts of different kinds at one place.
const (
	mainNewFar  = 0 // class Far
	mainCallGet = 1 // Main.get: no Params, a word
	mainInt     = 2 // -70000
	mainN       = 3 // Main.n, a word
	mainCallPut = 4 // Main.put: I Kid, Main
	mainNext    = 5 // Main.next, Kid
	mainCallOwn = 6 // Twin.own: Lone I I, Twin
	mainFarN    = 7 // Far.n, a word
	mainFarPut  = 8 // Far.put: I Kid, Main
	mainNewMain = 9 // class Main
	kidCallGet  = 0 // Far.get
	kidFarN     = 1 // Far.n, a word
	kidInt      = 2 // 7
	kidNewKid   = 3
	kidCallTell = 4 // Far.tell: no Params, Far
	farKidFar   = 0 // Kid.far, Far
	farLast     = 1 // Far.last, Far
	farNewLone  = 2
	farCallRun  = 3 // Lone.run: no Params, Lone
)

// flowProg is familyText with pools that have more than its code refers to.
func flowProg(t *testing.T) impl.Prog {
	t.Helper()
	p := progOf(t, familyText)
	add := func(k int, list ...impl.Const) { p.Kinds[k].Pool = append(p.Kinds[k].Pool, list...) }
	add(0, callConst("Main", "put"), fieldConst("Main", "next"), callConst("Twin", "own"), fieldConst("Far", "n"), callConst("Far", "put"), classConst("Main"))
	add(1, classConst("Kid"), callConst("Far", "tell"))
	if !progRight(p) {
		t.Fatalf("%+v is not right", p)
	}
	return p
}

// A placeBook tells what a place of a method does without the program: what may be taken is a list of all types that fit.
// It wants a Prog that is right.
type placeBook struct {
	p    impl.Prog
	k, m int
}

func (x placeBook) there() bool {
	return x.k >= 0 && x.k < len(x.p.Kinds) && x.m >= 0 && x.m < len(x.p.Kinds[x.k].Methods)
}

func (x placeBook) code() impl.Code { return x.p.Kinds[x.k].Methods[x.m] }

func (x placeBook) typeNamed(name string) impl.Type {
	if name == "I" {
		return intType
	}
	return refType(progBook(x.p).number(name))
}

func (x placeBook) begin() impl.Flow {
	if !x.there() {
		return impl.Flow{}
	}
	list := []impl.Type{refType(x.k)}
	for _, name := range x.code().Params {
		list = append(list, x.typeNamed(name))
	}
	for len(list) < x.code().Locals {
		list = append(list, topType)
	}
	return impl.Flow{Locals: list}
}

func flowRight(p impl.Prog, f impl.Flow) bool {
	for _, x := range slices.Concat(f.Locals, f.Stack) {
		if !slices.Contains(rightTypes(len(p.Kinds)), x) {
			return false
		}
	}
	return len(f.Locals) <= 6 && len(f.Stack) <= 6 && f.Held >= 0 && f.Held <= 4
}

// constAt is the const of a place that has one by its op, of the right kind.
func (x placeBook) constAt(in impl.Ins) (impl.Const, bool) {
	pool := x.p.Kinds[x.code().Owner].Pool
	if in.N < 0 || in.N >= len(pool) {
		return impl.Const{}, false
	}
	kinds := map[int]int{impl.OpConst: impl.PlInt, impl.OpNew: impl.PlClass, impl.OpGet: impl.PlField, impl.OpPut: impl.PlField, impl.OpCall: impl.PlCall}
	return pool[in.N], pool[in.N].Kind == kinds[in.Op]
}

func (x placeBook) placeRight(in impl.Ins) bool {
	if !insRight(in, len(x.code().List)) {
		return false
	}
	switch in.Op {
	case impl.OpConst, impl.OpNew, impl.OpGet, impl.OpPut, impl.OpCall:
		_, ok := x.constAt(in)
		return ok
	case impl.OpLoad, impl.OpStore:
		return in.N < x.code().Locals
	}
	return true
}

// fitting has all types that fit the type of that name.
func (x placeBook) fitting(name string) []impl.Type {
	var list []impl.Type
	for _, a := range rightTypes(len(x.p.Kinds)) {
		if fitsThere(x.p, a, x.typeNamed(name)) {
			list = append(list, a)
		}
	}
	return list
}

// takes has what may be taken, the last one on the stack first.
func (x placeBook) takes(in impl.Ins) [][]impl.Type {
	all := rightTypes(len(x.p.Kinds))
	word, object := []impl.Type{intType}, all[2:]
	c, _ := x.constAt(in)
	kind := max(progBook(x.p).number(c.A), 0)
	switch in.Op {
	case impl.OpStore, impl.OpPop, impl.OpDup:
		return [][]impl.Type{all}
	case impl.OpAdd, impl.OpSub, impl.OpMul, impl.OpLess:
		return [][]impl.Type{word, word}
	case impl.OpSame:
		return [][]impl.Type{object, object}
	case impl.OpZero, impl.OpPrint:
		return [][]impl.Type{word}
	case impl.OpEnter, impl.OpExit, impl.OpStart, impl.OpJoin:
		return [][]impl.Type{object}
	case impl.OpReturn:
		return [][]impl.Type{x.fitting(x.code().Result)}
	case impl.OpGet:
		return [][]impl.Type{x.fitting(c.A)}
	case impl.OpPut:
		fields := x.p.Kinds[kind].Fields
		return [][]impl.Type{x.fitting(fields[fieldAt(fields, c.B)].Type), x.fitting(c.A)}
	case impl.OpCall:
		list := [][]impl.Type{x.fitting(c.A)}
		methods := x.p.Kinds[kind].Methods
		for _, name := range methods[codeAt(methods, c.B)].Params {
			list = append([][]impl.Type{x.fitting(name)}, list...)
		}
		return list
	}
	return nil
}

// puts has what is put; top is what was taken last.
func (x placeBook) puts(in impl.Ins, f impl.Flow) []impl.Type {
	c, _ := x.constAt(in)
	kind := max(progBook(x.p).number(c.A), 0)
	switch in.Op {
	case impl.OpPush, impl.OpConst, impl.OpAdd, impl.OpSub, impl.OpMul, impl.OpLess, impl.OpSame:
		return []impl.Type{intType}
	case impl.OpNull:
		return []impl.Type{nullType}
	case impl.OpNew:
		return []impl.Type{refType(kind)}
	case impl.OpLoad:
		return []impl.Type{f.Locals[in.N]}
	case impl.OpGet:
		fields := x.p.Kinds[kind].Fields
		return []impl.Type{x.typeNamed(fields[fieldAt(fields, c.B)].Type)}
	case impl.OpCall:
		methods := x.p.Kinds[kind].Methods
		return []impl.Type{x.typeNamed(methods[codeAt(methods, c.B)].Result)}
	case impl.OpDup:
		return append(slices.Clone(f.Stack[max(len(f.Stack)-1, 0):]), f.Stack[max(len(f.Stack)-1, 0):]...)
	}
	return nil
}

// after is what After has to answer.
func (x placeBook) after(in impl.Ins, f impl.Flow) (impl.Flow, int) {
	if !x.there() || !flowRight(x.p, f) || !x.placeRight(in) || len(f.Locals) != x.code().Locals {
		return impl.Flow{}, 3
	}
	takes, puts := x.takes(in), x.puts(in, f)
	out := cloneFlow(f)
	if len(takes) > len(f.Stack) || len(f.Stack)-len(takes)+len(puts) > 6 {
		return impl.Flow{}, 1
	}
	for _, may := range takes {
		last := len(out.Stack) - 1
		if !slices.Contains(may, out.Stack[last]) {
			return impl.Flow{}, 2
		}
		out.Stack = out.Stack[:last]
	}
	out.Stack = append(out.Stack, puts...)
	switch in.Op {
	case impl.OpLoad:
		if f.Locals[in.N] == topType {
			return impl.Flow{}, 2
		}
	case impl.OpStore:
		out.Locals[in.N] = f.Stack[len(f.Stack)-1]
	case impl.OpEnter:
		out.Held++
	case impl.OpExit:
		out.Held--
	case impl.OpReturn:
		out.Held = -out.Held
	}
	if out.Held < 0 || out.Held > 4 {
		return impl.Flow{}, 4
	}
	return out, 0
}

// wantAfter holds After against the test's own, and tells what it is.
func wantAfter(t *testing.T, x placeBook, in impl.Ins, f impl.Flow) (impl.Flow, int) {
	t.Helper()
	want, code := x.after(in, f)
	got, how := impl.After(x.p, x.k, x.m, in, f)
	if how != code || !sameFlow(got, want) {
		t.Fatalf("After of class %d, method %d, %+v and %+v is %+v, %d; want %+v, %d", x.k, x.m, in, f, got, how, want, code)
	}
	if how == impl.VrDone && !impl.FlowOk(x.p, got) {
		t.Fatalf("After of class %d, method %d, %+v and %+v is %+v, which is not FlowOk", x.k, x.m, in, f, got)
	}
	return got, how
}

// eachMethod has each method of each class.
func eachMethod(p impl.Prog) []placeBook {
	var list []placeBook
	for k, kind := range p.Kinds {
		for m := range kind.Methods {
			list = append(list, placeBook{p, k, m})
		}
	}
	return list
}

// rightPlaces has what may be a place of a method; of OpPush, and of jumps, the edges.
func (x placeBook) rightPlaces() []impl.Ins {
	var list []impl.Ins
	for op := impl.OpPush; op <= impl.OpLess; op++ {
		numbers := []int{0, 1, 2, 3, 4, 5, 6, 7, 8, 9}
		if op == impl.OpPush || isJump(op) {
			numbers = []int{-128, 0, len(x.code().List) - 1, 127}
		}
		for _, n := range numbers {
			if in := ins(op, n); x.placeRight(in) {
				list = append(list, in)
			}
		}
	}
	return list
}

// somePlaces has what may be a place of a method, and what may not.
func (x placeBook) somePlaces() []impl.Ins {
	var list []impl.Ins
	for op := -1; op <= impl.OpLess+2; op++ {
		for _, n := range []int{math.MinInt, -129, -128, -1, 0, 1, 2, 3, 4, 5, 6, 7, 8, 9, 10, len(x.code().List) - 1, len(x.code().List), 23, 24, 127, 128, math.MaxInt} {
			list = append(list, ins(op, n))
		}
	}
	return list
}

// stacksOf has all stacks of so many types.
func stacksOf(classes, size int) [][]impl.Type {
	list := [][]impl.Type{nil}
	for range size {
		var longer [][]impl.Type
		for _, stack := range list {
			for _, x := range rightTypes(classes) {
				longer = append(longer, append(slices.Clone(stack), x))
			}
		}
		list = longer
	}
	return list
}

func stacksUpTo(classes, size int) [][]impl.Type {
	var list [][]impl.Type
	for n := range size + 1 {
		list = append(list, stacksOf(classes, n)...)
	}
	return list
}

// knowsMore: f is by g, type by type.
func knowsMore(p impl.Prog, f, g impl.Flow) bool {
	fits := func(a, b impl.Type) bool { return fitsThere(p, a, b) }
	return slices.EqualFunc(f.Locals, g.Locals, fits) && slices.EqualFunc(f.Stack, g.Stack, fits) && f.Held == g.Held
}

func TestFlowConstants(t *testing.T) {
	if impl.MaxStack != 6 || impl.MaxHeld != 4 {
		t.Error("limits")
	}
	for i, code := range []int{impl.VrDone, impl.VrStack, impl.VrType, impl.VrLocal, impl.VrHeld} {
		if code != i {
			t.Errorf("code %d is %d", i, code)
		}
	}
}

func TestFlowOk(t *testing.T) {
	p := flowProg(t)
	for _, x := range []struct {
		p    impl.Prog
		f    impl.Flow
		want bool
	}{
		{p, impl.Flow{}, true},
		{p, flowOf("0", "", 0), true}, {p, flowOf("", "i", 0), true}, {p, flowOf("tin012", "345tin", 4), true}, {p, flowOf("", "", 4), true},
		{p, flowOf("tttttt", "", 0), true}, {p, flowOf("ttttttt", "", 0), false}, {p, flowOf("tttttttt", "", 0), false},
		{p, flowOf("", "iiiiii", 0), true}, {p, flowOf("", "iiiiiii", 0), false}, {p, flowOf("", "iiiiiiii", 0), false},
		{p, flowOf("tttttt", "iiiiii", 4), true}, {p, flowOf("ttttttt", "iiiiiii", 4), false},
		{p, flowOf("", "", 5), false}, {p, flowOf("", "", -1), false}, {p, flowOf("0", "i", 5), false},
		{p, flowOf("", "", math.MaxInt), false}, {p, flowOf("", "", math.MinInt), false}, {p, flowOf("", "", 256), false}, {p, flowOf("", "", 1<<32), false},
		{p, flowOf("5", "5", 0), true}, {p, flowOf("6", "", 0), false}, {p, flowOf("", "6", 0), false},
		{progOf(t, mainText), flowOf("0", "0", 0), true}, {progOf(t, mainText), flowOf("1", "", 0), false}, {progOf(t, mainText), flowOf("", "1", 0), false},
		{impl.Prog{}, impl.Flow{}, true}, {impl.Prog{}, flowOf("tin", "tin", 1), true}, {impl.Prog{}, flowOf("0", "", 0), false}, {impl.Prog{}, flowOf("", "0", 0), false},
	} {
		if impl.FlowOk(x.p, x.f) != x.want || flowRight(x.p, x.f) != x.want {
			t.Errorf("FlowOk of %+v with %d classes is %v", x.f, len(x.p.Kinds), impl.FlowOk(x.p, x.f))
		}
	}
}

// One wrong type at any place makes a flow wrong.
func TestFlowOkOfEachType(t *testing.T) {
	for _, p := range []impl.Prog{flowProg(t), progOf(t, mainText), {}} {
		classes := len(p.Kinds)
		for _, x := range append(rightTypes(classes), wrongTypes(classes)...) {
			want := slices.Contains(rightTypes(classes), x)
			for size := 1; size <= impl.MaxStack; size++ {
				for at := range size {
					list := make([]impl.Type, size)
					list[at] = x
					for _, f := range []impl.Flow{{Locals: list}, {Stack: list}, {Locals: list, Stack: list, Held: 4}, {Locals: list, Stack: typesOf("tin")}, {Locals: typesOf("tin"), Stack: list}} {
						if impl.FlowOk(p, f) != want {
							t.Fatalf("FlowOk of %+v with %d classes is %v", f, classes, !want)
						}
					}
				}
			}
		}
	}
}

func TestBegin(t *testing.T) {
	p := flowProg(t)
	for _, x := range []struct {
		k, m   int
		locals string
	}{
		{0, 0, "0t"}, {0, 1, "0"}, {0, 2, "0i1t"},
		// Local 0 is of the class that is asked for, wherever the method is had from.
		{1, 0, "1t"}, {1, 1, "1ttttt"}, {1, 2, "1i1t"}, {1, 3, "1"},
		{2, 0, "2t"}, {2, 1, "2t"}, {2, 2, "2i1t"}, {2, 3, "2"}, {2, 4, "2"},
		{3, 1, "3"}, {3, 2, "3i1t"}, {3, 3, "34ii"}, {4, 0, "4"}, {4, 1, "4"},
		{0, 3, ""}, {0, -1, ""}, {1, 4, ""}, {2, 5, ""}, {4, 2, ""}, {5, 0, ""}, {5, -1, ""}, {-1, 0, ""}, {6, 0, ""}, {7, 0, ""},
		{math.MaxInt, 0, ""}, {math.MinInt, 0, ""}, {0, math.MaxInt, ""}, {0, math.MinInt, ""}, {1 << 32, 0, ""}, {0, 1 << 32, ""},
	} {
		if got := impl.Begin(p, x.k, x.m); !sameFlow(got, flowOf(x.locals, "", 0)) {
			t.Errorf("Begin of method %d of class %d is %+v", x.m, x.k, got)
		}
	}
	// MaxLocals of them, and Params of each kind of type.
	full := progOf(t, mainText+"class A\nmethod f A 6 I Main A\nload 3\nreturn\nmethod g I 4 A A I\nload 3\nreturn\nclass B A\nmethod f A 4 I Main A\nnull\nreturn\n")
	for _, x := range []struct {
		k, m   int
		locals string
	}{{1, 0, "1i01tt"}, {1, 1, "111i"}, {2, 0, "2i01"}, {2, 1, "211i"}} {
		if got := impl.Begin(full, x.k, x.m); !sameFlow(got, flowOf(x.locals, "", 0)) {
			t.Errorf("Begin of method %d of class %d is %+v", x.m, x.k, got)
		}
	}
}

// wantBegins holds Begin against the test's own, of all numbers of classes and methods that a program has, and some that it does not have.
func wantBegins(t *testing.T, p impl.Prog) {
	t.Helper()
	right := progRight(p)
	for k := -2; k <= len(p.Kinds)+1; k++ {
		for m := -2; m <= impl.MaxMethods+1; m++ {
			got, want := impl.Begin(p, k, m), impl.Flow{}
			if right {
				want = placeBook{p, k, m}.begin()
			}
			if !sameFlow(got, want) {
				t.Fatalf("%+v: Begin of method %d of class %d is %+v", p, m, k, got)
			}
			if !impl.FlowOk(p, got) {
				t.Fatalf("%+v: Begin of method %d of class %d is %+v, which is not FlowOk", p, m, k, got)
			}
		}
	}
}

func TestBeginOfManyPrograms(t *testing.T) {
	d := dice(12)
	linked := 0
	for range 1000 {
		if p, how := impl.Link(d.someSet()); how == impl.LnDone {
			linked++
			wantBegins(t, p)
		}
	}
	if linked < 300 {
		t.Errorf("%d linked", linked)
	}
	for _, p := range append(twistedProgs(), flowProg(t), progOf(t, mainText), impl.Prog{}) {
		wantBegins(t, p)
	}
}

// Each op, with just what it takes on the stack, or with something below it, in the method put of Main (I Kid, Main), which has four locals.
func TestAfterOfEachOp(t *testing.T) {
	p := flowProg(t)
	for _, x := range []struct {
		in            impl.Ins
		ahead, behind string
	}{
		{push(0), "", "i"}, {push(-128), "", "i"}, {push(127), "0", "0i"}, {push(5), "tin01", "tin01i"},
		{ins(impl.OpConst, mainInt), "", "i"}, {ins(impl.OpConst, mainInt), "t", "ti"},
		{ins(impl.OpLoad, 0), "", "0"}, {ins(impl.OpLoad, 1), "", "i"}, {ins(impl.OpLoad, 2), "n", "n1"},
		{bare(impl.OpAdd), "ii", "i"}, {bare(impl.OpSub), "ii", "i"}, {bare(impl.OpMul), "tii", "ti"}, {bare(impl.OpLess), "iii", "ii"},
		{bare(impl.OpNull), "", "n"}, {bare(impl.OpNull), "5", "5n"},
		{ins(impl.OpNew, mainNewFar), "", "2"}, {ins(impl.OpNew, mainNewMain), "t", "t0"},
		{ins(impl.OpGet, mainN), "0", "i"}, {ins(impl.OpGet, mainN), "t2", "ti"}, {ins(impl.OpGet, mainNext), "0", "1"}, {ins(impl.OpGet, mainNext), "3", "1"}, {ins(impl.OpGet, mainNext), "n", "1"}, {ins(impl.OpGet, mainFarN), "2", "i"},
		{ins(impl.OpPut, mainN), "0i", ""}, {ins(impl.OpPut, mainN), "ini", "i"}, {ins(impl.OpPut, mainNext), "01", ""}, {ins(impl.OpPut, mainNext), "12", ""}, {ins(impl.OpPut, mainNext), "3n", ""}, {ins(impl.OpPut, mainNext), "tnn", "t"},
		{ins(impl.OpCall, mainCallGet), "0", "i"}, {ins(impl.OpCall, mainCallGet), "i2", "ii"}, {ins(impl.OpCall, mainCallGet), "n", "i"},
		{ins(impl.OpCall, mainCallPut), "0i1", "0"}, {ins(impl.OpCall, mainCallPut), "t2in", "t0"}, {ins(impl.OpCall, mainCallPut), "ni2", "0"},
		{ins(impl.OpCall, mainFarPut), "2i1", "0"}, {ins(impl.OpCall, mainFarPut), "nin", "0"},
		{ins(impl.OpCall, mainCallOwn), "34ii", "3"}, {ins(impl.OpCall, mainCallOwn), "tnnii", "t3"},
		{ins(impl.OpZero, 0), "i", ""}, {ins(impl.OpZero, 4), "ti", "t"}, {jump(0), "", ""}, {jump(4), "tin", "tin"},
		{bare(impl.OpSame), "00", "i"}, {bare(impl.OpSame), "nn", "i"}, {bare(impl.OpSame), "t4n", "ti"}, {bare(impl.OpSame), "n5", "i"}, {bare(impl.OpSame), "15", "i"},
		{bare(impl.OpPrint), "i", ""}, {bare(impl.OpPrint), "ii", "i"},
		{bare(impl.OpReturn), "0", ""}, {bare(impl.OpReturn), "2", ""}, {bare(impl.OpReturn), "tin", "ti"},
		{bare(impl.OpStart), "0", ""}, {bare(impl.OpStart), "tn", "t"}, {bare(impl.OpJoin), "5", ""}, {bare(impl.OpJoin), "in", "i"},
		{bare(impl.OpPop), "i", ""}, {bare(impl.OpPop), "nt", "n"}, {bare(impl.OpPop), "t4", "t"},
		{bare(impl.OpDup), "i", "ii"}, {bare(impl.OpDup), "0t", "0tt"}, {bare(impl.OpDup), "tn", "tnn"}, {bare(impl.OpDup), "5", "55"},
	} {
		f := flowOf("0i1t", x.ahead, 0)
		got, how := wantAfter(t, placeBook{p, 0, 2}, x.in, f)
		if how != impl.VrDone || !sameFlow(got, flowOf("0i1t", x.behind, 0)) {
			t.Errorf("%+v with %s on the stack makes %+v, %d; want %s", x.in, x.ahead, got, how, x.behind)
		}
	}
}

func TestAfterStores(t *testing.T) {
	p := flowProg(t)
	for _, x := range []struct {
		n             int
		ahead, behind string
		locals        string
	}{
		{0, "i", "", "ii1t"}, {1, "n", "", "0n1t"}, {2, "t", "", "0itt"}, {3, "2", "", "0i12"}, {3, "tin4", "tin", "0i14"}, {0, "t0", "t", "0i1t"}, {3, "5n", "5", "0i1n"},
	} {
		got, how := wantAfter(t, placeBook{p, 0, 2}, ins(impl.OpStore, x.n), flowOf("0i1t", x.ahead, 2))
		if how != impl.VrDone || !sameFlow(got, flowOf(x.locals, x.behind, 2)) {
			t.Errorf("store %d with %s on the stack makes %+v, %d", x.n, x.ahead, got, how)
		}
	}
	// What was stored is loaded.
	got, _ := impl.After(p, 0, 2, ins(impl.OpStore, 3), flowOf("0i1t", "4", 0))
	got, how := impl.After(p, 0, 2, ins(impl.OpLoad, 3), got)
	if how != impl.VrDone || !sameFlow(got, flowOf("0i14", "4", 0)) {
		t.Errorf("%+v, %d", got, how)
	}
}

func TestAfterHolds(t *testing.T) {
	p := flowProg(t)
	for _, x := range []struct {
		op, held, code, behind int
	}{
		{impl.OpEnter, 0, impl.VrDone, 1}, {impl.OpEnter, 1, impl.VrDone, 2}, {impl.OpEnter, 3, impl.VrDone, 4}, {impl.OpEnter, 4, impl.VrHeld, 0}, {impl.OpEnter, 5, impl.VrLocal, 0}, {impl.OpEnter, -1, impl.VrLocal, 0},
		{impl.OpExit, 0, impl.VrHeld, 0}, {impl.OpExit, 1, impl.VrDone, 0}, {impl.OpExit, 2, impl.VrDone, 1}, {impl.OpExit, 4, impl.VrDone, 3}, {impl.OpExit, 5, impl.VrLocal, 0}, {impl.OpExit, -1, impl.VrLocal, 0},
		{impl.OpReturn, 0, impl.VrDone, 0}, {impl.OpReturn, 1, impl.VrHeld, 0}, {impl.OpReturn, 4, impl.VrHeld, 0}, {impl.OpReturn, 5, impl.VrLocal, 0}, {impl.OpReturn, -1, impl.VrLocal, 0},
		{impl.OpStart, 0, impl.VrDone, 0}, {impl.OpStart, 4, impl.VrDone, 4}, {impl.OpJoin, 0, impl.VrDone, 0}, {impl.OpJoin, 4, impl.VrDone, 4}, {impl.OpPop, 4, impl.VrDone, 4},
		{impl.OpJoin, math.MaxInt, impl.VrLocal, 0}, {impl.OpEnter, math.MaxInt, impl.VrLocal, 0}, {impl.OpExit, math.MinInt, impl.VrLocal, 0},
	} {
		for _, taken := range []string{"0", "n", "2"} {
			got, how := wantAfter(t, placeBook{p, 0, 2}, bare(x.op), flowOf("0i1t", taken, x.held))
			if how != x.code || got.Held != x.behind || len(got.Stack) != 0 {
				t.Errorf("op %d with %d held and %s on the stack makes %+v, %d", x.op, x.held, taken, got, how)
			}
		}
	}
	// All other ops leave what is held as it is, with as many as may be held.
	for _, in := range (placeBook{p, 0, 2}).rightPlaces() {
		if in.Op == impl.OpEnter || in.Op == impl.OpExit || in.Op == impl.OpReturn {
			continue
		}
		for held := range impl.MaxHeld + 1 {
			for _, stack := range []string{"", "ii", "nn", "0i1", "34ii", "01"} {
				if got, how := wantAfter(t, placeBook{p, 0, 2}, in, flowOf("0i1t", stack, held)); how == impl.VrHeld || how == impl.VrDone && got.Held != held {
					t.Errorf("%+v with %d held makes %+v, %d", in, held, got, how)
				}
			}
		}
	}
}

// A code and what it is told of: put of Main has Locals 4, get of Main 1.
type codeCase struct {
	in     impl.Ins
	m      int
	locals string
	stack  string
	held   int
	code   int
}

func wantCodes(t *testing.T, list []codeCase) {
	t.Helper()
	p := flowProg(t)
	for _, x := range list {
		got, how := wantAfter(t, placeBook{p, 0, x.m}, x.in, flowOf(x.locals, x.stack, x.held))
		if how != x.code || x.code != impl.VrDone && !sameFlow(got, impl.Flow{}) {
			t.Errorf("%+v of method %d with %s, %s, %d is %+v, %d; want %d", x.in, x.m, x.locals, x.stack, x.held, got, how, x.code)
		}
	}
}

// One less on the stack than a place takes, and just as many of a wrong type.
func TestAfterOfTooFewOnTheStack(t *testing.T) {
	stack, done := impl.VrStack, impl.VrDone
	var list []codeCase
	for _, x := range []struct {
		in    impl.Ins
		takes string
	}{
		{ins(impl.OpStore, 1), "i"}, {bare(impl.OpAdd), "ii"}, {bare(impl.OpSub), "ii"}, {bare(impl.OpMul), "ii"}, {bare(impl.OpLess), "ii"}, {bare(impl.OpSame), "00"},
		{ins(impl.OpGet, mainN), "0"}, {ins(impl.OpPut, mainN), "0i"}, {ins(impl.OpPut, mainNext), "01"}, {ins(impl.OpCall, mainCallGet), "0"}, {ins(impl.OpCall, mainCallPut), "0i1"}, {ins(impl.OpCall, mainCallOwn), "34ii"},
		{ins(impl.OpZero, 0), "i"}, {bare(impl.OpPrint), "i"}, {bare(impl.OpEnter), "0"}, {bare(impl.OpReturn), "0"}, {bare(impl.OpStart), "0"}, {bare(impl.OpJoin), "0"}, {bare(impl.OpPop), "t"}, {bare(impl.OpDup), "t"},
	} {
		list = append(list, codeCase{x.in, 2, "0i1t", x.takes, 0, done})
		for less := 1; less <= len(x.takes); less++ {
			list = append(list, codeCase{x.in, 2, "0i1t", x.takes[less:], 0, stack}, codeCase{x.in, 2, "0i1t", x.takes[:len(x.takes)-less], 0, stack})
		}
	}
	list = append(list, codeCase{bare(impl.OpExit), 2, "0i1t", "0", 1, done}, codeCase{bare(impl.OpExit), 2, "0i1t", "", 1, stack})
	wantCodes(t, list)
}

// MaxStack is what may be on the stack behind a place, and ahead of it.
func TestAfterOfTooManyOnTheStack(t *testing.T) {
	stack, done := impl.VrStack, impl.VrDone
	var list []codeCase
	for _, in := range []impl.Ins{push(1), ins(impl.OpConst, mainInt), bare(impl.OpNull), ins(impl.OpNew, mainNewFar), ins(impl.OpLoad, 0), bare(impl.OpDup)} {
		list = append(list, codeCase{in, 2, "0i1t", "iiiii", 0, done}, codeCase{in, 2, "0i1t", "iiiiii", 0, stack}, codeCase{in, 2, "0i1t", "iiiiiii", 0, impl.VrLocal})
	}
	// Who takes as many as are put, or more, gets by with MaxStack.
	for _, x := range []struct {
		in    impl.Ins
		stack string
	}{
		{bare(impl.OpAdd), "iiiiii"}, {bare(impl.OpSame), "iiii0n"}, {ins(impl.OpGet, mainN), "iiiii0"}, {ins(impl.OpGet, mainNext), "ttttt0"}, {ins(impl.OpPut, mainN), "iiii0i"}, {ins(impl.OpCall, mainCallGet), "iiiii0"}, {ins(impl.OpCall, mainCallPut), "iii0i1"}, {ins(impl.OpCall, mainCallOwn), "ii34ii"},
		{jump(0), "tttttt"}, {ins(impl.OpZero, 0), "ttttti"}, {bare(impl.OpReturn), "ttttt0"}, {bare(impl.OpPop), "tttttt"}, {ins(impl.OpStore, 3), "tttttt"}, {bare(impl.OpEnter), "ttttt0"},
	} {
		list = append(list, codeCase{x.in, 2, "0i1t", x.stack, 0, done}, codeCase{x.in, 2, "0i1t", "t" + x.stack, 0, impl.VrLocal})
	}
	wantCodes(t, list)
}

func TestAfterOfWrongTypes(t *testing.T) {
	wrong, done := impl.VrType, impl.VrDone
	var list []codeCase
	add := func(code int, in impl.Ins, stacks ...string) {
		for _, stack := range stacks {
			list = append(list, codeCase{in, 2, "0i1t", stack, 0, code})
		}
	}
	// null where a word is wanted, and where a class is; KdTop fits nothing but what may be anything.
	for _, op := range []int{impl.OpAdd, impl.OpSub, impl.OpMul, impl.OpLess} {
		add(wrong, bare(op), "in", "ni", "nn", "i0", "0i", "it", "ti", "tt")
		add(done, bare(op), "ii")
	}
	for _, in := range []impl.Ins{ins(impl.OpZero, 1), bare(impl.OpPrint)} {
		add(wrong, in, "n", "0", "5", "t", "in")
		add(done, in, "i", "ni", "ti")
	}
	for _, op := range []int{impl.OpEnter, impl.OpStart, impl.OpJoin} {
		add(wrong, bare(op), "i", "t", "0i", "nt")
		add(done, bare(op), "n", "0", "4", "5", "tn", "i0")
	}
	add(wrong, bare(impl.OpSame), "0i", "i0", "ii", "n0i", "ni", "in", "t0", "0t", "tt", "nt", "tn")
	add(done, bare(impl.OpSame), "nn", "n0", "0n", "05", "t00")
	// Main and what is below it are Main; Main is no Far; Twin is no Kid.
	add(wrong, ins(impl.OpGet, mainN), "4", "5", "i", "t", "0i")
	add(done, ins(impl.OpGet, mainN), "0", "1", "2", "3", "n", "t0")
	add(wrong, ins(impl.OpGet, mainFarN), "0", "1", "3", "4", "i", "t")
	add(done, ins(impl.OpGet, mainFarN), "2", "n")
	add(wrong, ins(impl.OpPut, mainN), "0n", "00", "0t", "i0", "ii", "ti", "4i", "i0i0")
	add(done, ins(impl.OpPut, mainN), "0i", "1i", "ni", "t2i")
	add(wrong, ins(impl.OpPut, mainNext), "00", "03", "04", "0i", "0t", "41", "i1", "t1", "10")
	add(done, ins(impl.OpPut, mainNext), "01", "02", "0n", "n1", "31", "nn")
	add(wrong, ins(impl.OpCall, mainCallGet), "4", "5", "i", "t")
	add(done, ins(impl.OpCall, mainCallGet), "0", "1", "2", "3", "n")
	add(wrong, ins(impl.OpCall, mainCallPut), "01i", "0nn", "0i0", "0i3", "0ii", "0it", "0t1", "001", "4i1", "ti1", "ii1", "1i0")
	add(done, ins(impl.OpCall, mainCallPut), "0i1", "0i2", "0in", "2i1", "3i1", "nin")
	add(wrong, ins(impl.OpCall, mainFarPut), "0i1", "1i1", "3i1", "ti1")
	add(done, ins(impl.OpCall, mainFarPut), "2i1", "nin")
	add(wrong, ins(impl.OpCall, mainCallOwn), "3ii4", "3i4i", "34in", "34ni", "30ii", "04ii", "t4ii", "3tii", "34it", "34ti")
	add(done, ins(impl.OpCall, mainCallOwn), "34ii", "n4ii", "3nii", "nnii")
	add(wrong, ret(), "4", "5", "i", "t", "0i", "0t")
	add(done, ret(), "0", "1", "2", "3", "n", "i0")
	// What may be anything.
	add(done, bare(impl.OpPop), "t", "i", "n", "0", "5")
	add(done, bare(impl.OpDup), "t", "i", "n", "0", "5")
	add(done, ins(impl.OpStore, 1), "t", "i", "n", "0", "5")
	wantCodes(t, list)
	// A Result that is a word.
	wantCodes(t, []codeCase{
		{ret(), 1, "0", "i", 0, done}, {ret(), 1, "0", "n", 0, wrong}, {ret(), 1, "0", "0", 0, wrong}, {ret(), 1, "0", "t", 0, wrong}, {ret(), 1, "0", "ti", 0, done}, {ret(), 1, "0", "it", 0, wrong},
	})
}

func TestAfterOfLocals(t *testing.T) {
	var list []codeCase
	for _, op := range []int{impl.OpLoad, impl.OpStore} {
		for n, code := range map[int]int{-1: impl.VrLocal, 0: impl.VrDone, 3: impl.VrDone, 4: impl.VrLocal, 5: impl.VrLocal, 6: impl.VrLocal, 7: impl.VrLocal, 256: impl.VrLocal, math.MaxInt: impl.VrLocal, math.MinInt: impl.VrLocal, 1 << 32: impl.VrLocal} {
			list = append(list, codeCase{ins(op, n), 2, "0i1n", "i", 0, code})
		}
		list = append(list, codeCase{ins(op, 0), 1, "0", "i", 0, impl.VrDone}, codeCase{ins(op, 1), 1, "0", "i", 0, impl.VrLocal})
	}
	// One local more, and one less, than the method has: of whatever place.
	for _, in := range []impl.Ins{ins(impl.OpLoad, 0), ins(impl.OpLoad, 3), ins(impl.OpLoad, 4), ins(impl.OpStore, 2), push(1), jump(0), bare(impl.OpPop), bare(impl.OpAdd)} {
		for _, locals := range []string{"", "0", "0i1", "0i1nn", "0i1nnn"} {
			list = append(list, codeCase{in, 2, locals, "ii", 0, impl.VrLocal})
		}
	}
	// What nothing is known of is not loaded, but stored over.
	list = append(list,
		codeCase{ins(impl.OpLoad, 3), 2, "0i1t", "", 0, impl.VrType}, codeCase{ins(impl.OpLoad, 3), 2, "0i1n", "", 0, impl.VrDone}, codeCase{ins(impl.OpLoad, 0), 2, "ttti", "", 0, impl.VrType},
		codeCase{ins(impl.OpLoad, 3), 2, "ttti", "", 0, impl.VrDone}, codeCase{ins(impl.OpStore, 3), 2, "0i1t", "i", 0, impl.VrDone}, codeCase{ins(impl.OpStore, 3), 2, "0i1t", "t", 0, impl.VrDone})
	wantCodes(t, list)
	// A method with MaxLocals.
	p := flowProg(t)
	for n := range 8 {
		want := impl.VrDone
		if n > 5 {
			want = impl.VrLocal
		}
		if _, how := wantAfter(t, placeBook{p, 1, 1}, ins(impl.OpLoad, n), flowOf("1iiiii", "", 0)); how != want {
			t.Errorf("load %d of six is %d", n, how)
		}
	}
}

// Where two codes would hold at once, the first counts: VrLocal, VrStack, VrType, VrHeld.
func TestAfterFirstCode(t *testing.T) {
	local, stack, wrong, held := impl.VrLocal, impl.VrStack, impl.VrType, impl.VrHeld
	wantCodes(t, []codeCase{
		// VrLocal ahead of VrStack.
		{ins(impl.OpLoad, 4), 2, "0i1t", "iiiiii", 0, local}, {ins(impl.OpStore, 4), 2, "0i1t", "", 0, local}, {bare(impl.OpAdd), 2, "0i1", "", 0, local}, {push(1), 2, "0i1tt", "iiiiii", 0, local},
		{push(128), 2, "0i1t", "iiiiii", 0, local}, {jump(5), 2, "0i1t", "", 0, local}, {ins(impl.OpZero, 5), 2, "0i1t", "", 0, local}, {ins(impl.OpGet, mainInt), 2, "0i1t", "", 0, local}, {ins(25, 0), 2, "0i1t", "", 0, local}, {bare(impl.OpPop), 2, "0i1t", "", 5, local},
		// VrLocal ahead of VrType.
		{ins(impl.OpZero, 5), 2, "0i1t", "n", 0, local}, {bare(impl.OpAdd), 2, "0i1tt", "nn", 0, local}, {ins(impl.OpLoad, 3), 2, "0i1tt", "", 0, local}, {ins(impl.OpGet, mainCallGet), 2, "0i1t", "i", 0, local}, {ins(impl.OpPrint, 1), 2, "0i1t", "n", 0, local},
		// VrLocal ahead of VrHeld.
		{bare(impl.OpExit), 2, "0i1", "0", 0, local}, {bare(impl.OpEnter), 2, "0i1", "0", 4, local}, {ret(), 2, "0i1tt", "0", 1, local}, {ins(impl.OpReturn, 1), 2, "0i1t", "0", 1, local}, {bare(impl.OpEnter), 2, "0i1t", "0", 5, local}, {bare(impl.OpExit), 2, "0i1t", "0", -1, local},
		// VrStack ahead of VrType.
		{ins(impl.OpLoad, 3), 2, "0i1t", "iiiiii", 0, stack}, {ins(impl.OpLoad, 3), 2, "0i1t", "iiiii", 0, wrong}, {bare(impl.OpAdd), 2, "0i1t", "n", 0, stack}, {ins(impl.OpPut, mainN), 2, "0i1t", "n", 0, stack}, {ins(impl.OpCall, mainCallPut), 2, "0i1t", "ii", 0, stack}, {ins(impl.OpCall, mainCallPut), 2, "0i1t", "tt", 0, stack}, {bare(impl.OpSame), 2, "0i1t", "i", 0, stack},
		// VrStack ahead of VrHeld.
		{bare(impl.OpExit), 2, "0i1t", "", 0, stack}, {bare(impl.OpEnter), 2, "0i1t", "", 4, stack}, {ret(), 2, "0i1t", "", 1, stack},
		// VrType ahead of VrHeld.
		{bare(impl.OpExit), 2, "0i1t", "i", 0, wrong}, {bare(impl.OpExit), 2, "0i1t", "t", 0, wrong}, {bare(impl.OpEnter), 2, "0i1t", "i", 4, wrong}, {ret(), 2, "0i1t", "i", 1, wrong}, {ret(), 2, "0i1t", "4", 4, wrong},
		{bare(impl.OpExit), 2, "0i1t", "0", 0, held}, {bare(impl.OpEnter), 2, "0i1t", "0", 4, held}, {ret(), 2, "0i1t", "0", 1, held},
	})
}

// A method that is had from above: its const is that of the Pool of its Owner, and its Result and local 0 are as they are.
func TestAfterOfAMethodFromAbove(t *testing.T) {
	p := flowProg(t)
	for _, x := range []struct {
		k, m          int
		in            impl.Ins
		locals, stack string
		behind        string
		code          int
	}{
		// own of Far is Kid's.
		{2, 3, ins(impl.OpCall, kidCallGet), "2", "2", "i", impl.VrDone}, {2, 3, ins(impl.OpGet, kidFarN), "2", "2", "i", impl.VrDone}, {2, 3, ins(impl.OpConst, kidInt), "2", "", "i", impl.VrDone}, {2, 3, ins(impl.OpNew, kidNewKid), "2", "", "1", impl.VrDone}, {2, 3, ins(impl.OpCall, kidCallTell), "2", "n", "2", impl.VrDone},
		{2, 3, ins(impl.OpGet, farKidFar), "2", "2", "", impl.VrLocal}, {2, 3, ins(impl.OpNew, farNewLone), "2", "", "", impl.VrLocal}, {2, 3, ins(impl.OpCall, farCallRun), "2", "4", "", impl.VrLocal}, {2, 3, ins(impl.OpNew, mainNewFar), "2", "", "", impl.VrLocal},
		// tell of Far is its own.
		{2, 4, ins(impl.OpGet, farKidFar), "2", "1", "2", impl.VrDone}, {2, 4, ins(impl.OpPut, farLast), "2", "22", "", impl.VrDone}, {2, 4, ins(impl.OpNew, farNewLone), "2", "", "4", impl.VrDone}, {2, 4, ins(impl.OpCall, farCallRun), "2", "4", "4", impl.VrDone},
		{2, 4, ins(impl.OpCall, kidCallGet), "2", "2", "", impl.VrLocal}, {2, 4, ins(impl.OpConst, kidInt), "2", "", "", impl.VrLocal}, {2, 4, ins(impl.OpNew, kidNewKid), "2", "", "", impl.VrLocal}, {2, 4, ins(impl.OpConst, mainInt), "2", "", "", impl.VrLocal},
		// run of Twin, which has no consts of its own, and put of Kid are Main's.
		{3, 0, ins(impl.OpConst, mainInt), "3t", "", "i", impl.VrDone}, {3, 0, ins(impl.OpNew, mainNewFar), "3t", "", "2", impl.VrDone}, {3, 0, ins(impl.OpCall, mainCallPut), "3t", "3i1", "0", impl.VrDone}, {3, 3, ins(impl.OpConst, mainInt), "34ii", "", "", impl.VrLocal}, {3, 3, ins(impl.OpNew, 0), "34ii", "", "", impl.VrLocal},
		{1, 2, ins(impl.OpPut, mainNext), "1i1t", "11", "", impl.VrDone}, {1, 2, ret(), "1i1t", "0", "", impl.VrDone}, {1, 2, ret(), "1i1t", "4", "", impl.VrType}, {1, 2, ins(impl.OpPut, kidFarN), "1i1t", "2i", "", impl.VrLocal},
		// Kid's own get has Locals 6, Main's 1.
		{1, 1, ins(impl.OpStore, 5), "1ttttt", "i", "", impl.VrDone}, {0, 1, ins(impl.OpStore, 5), "0", "i", "", impl.VrLocal}, {3, 1, ins(impl.OpStore, 1), "3", "i", "", impl.VrLocal}, {1, 1, ins(impl.OpStore, 0), "1", "i", "", impl.VrLocal},
	} {
		got, how := wantAfter(t, placeBook{p, x.k, x.m}, x.in, flowOf(x.locals, x.stack, 0))
		if how != x.code || !slices.Equal(got.Stack, typesOf(x.behind)) {
			t.Errorf("%+v of method %d of class %d with %s is %+v, %d", x.in, x.m, x.k, x.stack, got, how)
		}
	}
}

// wantNoAfter: zero and VrLocal.
func wantNoAfter(t *testing.T, p impl.Prog, k, m int, in impl.Ins, f impl.Flow) {
	t.Helper()
	if got, how := impl.After(p, k, m, in, f); how != impl.VrLocal || !sameFlow(got, impl.Flow{}) {
		t.Fatalf("%+v: After of method %d of class %d, %+v and %+v is %+v, %d", p, m, k, in, f, got, how)
	}
}

func TestAfterOfWhatIsNoMethod(t *testing.T) {
	p := flowProg(t)
	for _, in := range []impl.Ins{push(1), jump(0), ins(impl.OpLoad, 0), ret(), bare(impl.OpAdd), ins(impl.OpNew, 0)} {
		for _, f := range []impl.Flow{{}, flowOf("0", "i", 0), flowOf("0", "", 0), flowOf("0t", "0", 0), flowOf("0i1t", "ii", 0)} {
			for _, k := range append(edgeNumbers(), 6, 7, 256) {
				wantNoAfter(t, p, k, 0, in, f)
				wantNoAfter(t, p, 0, k, in, f)
				wantNoAfter(t, p, k, k, in, f)
			}
			for k, methods := range []int{3, 4, 5, 4, 2, 0} {
				wantNoAfter(t, p, k, methods, in, f)
				wantNoAfter(t, p, k, -1, in, f)
			}
		}
	}
}

func TestAfterOfWhatIsNoPlace(t *testing.T) {
	p := flowProg(t)
	none := func(op int, numbers ...int) {
		t.Helper()
		for _, n := range append(numbers, math.MinInt, math.MaxInt) {
			for _, stack := range []string{"", "i", "0", "ii", "00", "0i", "0i1", "34ii"} {
				wantNoAfter(t, p, 0, 2, ins(op, n), flowOf("0i1n", stack, 1))
			}
		}
	}
	for _, op := range append(edgeNumbers(), 0, 25, 26, 256+impl.OpPop, 1<<32+impl.OpGoto) {
		none(op, 0, 1, -1)
	}
	for _, op := range []int{impl.OpAdd, impl.OpSub, impl.OpMul, impl.OpNull, impl.OpSame, impl.OpEnter, impl.OpExit, impl.OpPrint, impl.OpReturn, impl.OpStart, impl.OpJoin, impl.OpPop, impl.OpDup, impl.OpLess} {
		none(op, -1, 1, 2, 256, 1<<32)
	}
	none(impl.OpPush, -129, 128, 256, -256, 1<<32)
	// put of Main has five places: 0 to 4.
	none(impl.OpZero, -1, 5, 6, 90, 256, 1<<32)
	none(impl.OpGoto, -1, 5, 6, 90, 256, 1<<32)
	// Main's pool has ten consts; where one is of another kind than its op wants, or beyond the pool, there is no such place.
	consts := map[int][]int{
		impl.OpConst: {mainInt}, impl.OpNew: {mainNewFar, mainNewMain}, impl.OpGet: {mainN, mainNext, mainFarN}, impl.OpPut: {mainN, mainNext, mainFarN},
		impl.OpCall: {mainCallGet, mainCallPut, mainCallOwn, mainFarPut},
	}
	for op, right := range consts {
		for n := -1; n <= impl.MaxPool; n++ {
			if !slices.Contains(right, n) {
				none(op, n)
			}
		}
		none(op, 256+right[0], 1<<32+right[0], -1<<32+right[0])
	}
}

// A pool of MaxPool consts: the last one is referred to, one behind it is none.
func TestAfterOfAFullPool(t *testing.T) {
	p := progOf(t, mainText)
	for n := range impl.MaxPool - 1 {
		p.Kinds[0].Pool = append(p.Kinds[0].Pool, intConst(n))
	}
	p.Kinds[0].Pool = append(p.Kinds[0].Pool, classConst("Main"))
	x := placeBook{p, 0, 0}
	for n := -1; n <= impl.MaxPool; n++ {
		for _, op := range []int{impl.OpConst, impl.OpNew, impl.OpGet, impl.OpPut, impl.OpCall} {
			_, how := wantAfter(t, x, ins(op, n), flowOf("0", "", 0))
			if done := op == impl.OpConst && n >= 0 && n < impl.MaxPool-1 || op == impl.OpNew && n == impl.MaxPool-1; (how == impl.VrDone) != done {
				t.Errorf("op %d, const %d is %d", op, n, how)
			}
		}
	}
	// What stands in the spare room behind the pool is no const.
	p.Kinds[0].Pool = p.Kinds[0].Pool[:3]
	wantNoAfter(t, p, 0, 0, ins(impl.OpConst, 3), flowOf("0", "", 0))
}

func TestAfterOfWrongFlows(t *testing.T) {
	p := flowProg(t)
	x := placeBook{p, 0, 2}
	for _, in := range []impl.Ins{push(1), jump(0), ins(impl.OpLoad, 0), ins(impl.OpStore, 1), bare(impl.OpPop), bare(impl.OpDup), bare(impl.OpNull), bare(impl.OpEnter), ret()} {
		for _, wrong := range wrongTypes(len(p.Kinds)) {
			for at := range 4 {
				f := flowOf("0i1t", "0000", 1)
				f.Locals[at] = wrong
				wantAfter(t, x, in, f)
				wantNoAfter(t, p, 0, 2, in, f)
				f = flowOf("0i1t", "0000", 1)
				f.Stack[at] = wrong
				wantNoAfter(t, p, 0, 2, in, f)
			}
		}
		for _, held := range append(edgeNumbers(), 5, 6, 256) {
			wantNoAfter(t, p, 0, 2, in, flowOf("0i1t", "0000", held))
		}
		wantNoAfter(t, p, 0, 2, in, flowOf("0i1t", "0000000", 1))
		wantNoAfter(t, p, 0, 2, in, flowOf("0i1tttt", "0000", 1))
	}
}

// wrongTurns has programs of which each is turned at one place, and is not right.
func wrongTurns(p impl.Prog) []impl.Prog {
	var list []impl.Prog
	add := func(q impl.Prog) {
		if !progRight(q) {
			list = append(list, q)
		}
	}
	for _, q := range listTurns(p) {
		add(q)
	}
	for i := range progInts(p) {
		for _, n := range []int{-129, -2, 25, 200, math.MaxInt} {
			q := cloneProg(p)
			*progInts(q)[i] = n
			add(q)
		}
	}
	for i := range progTexts(p) {
		for _, s := range []string{"", "a1", "None", longestName + "x"} {
			q := cloneProg(p)
			*progTexts(q)[i] = s
			add(q)
		}
	}
	return list
}

func TestFlowsOfWrongPrograms(t *testing.T) {
	t.Parallel()
	p := flowProg(t)
	list := append(wrongTurns(p), twistedProgs()...)
	if len(list) < 500 {
		t.Errorf("%d wrong programs", len(list))
	}
	for _, q := range append(list, impl.Prog{}) {
		for k := range 6 {
			for _, m := range []int{0, 1, 3} {
				if got := impl.Begin(q, k, m); !sameFlow(got, impl.Flow{}) {
					t.Fatalf("%+v: Begin of method %d of class %d is %+v", q, m, k, got)
				}
				for _, in := range []impl.Ins{push(1), ins(impl.OpLoad, 0), ins(impl.OpNew, 0)} {
					wantNoAfter(t, q, k, m, in, placeBook{p, k, m}.begin())
				}
			}
		}
	}
}

// Each place of each method, whatever it is, with few on the stack, of all types.
func TestAfterOfAllSmallFlows(t *testing.T) {
	t.Parallel()
	p := flowProg(t)
	var counts [5]int
	for _, x := range eachMethod(p) {
		for _, in := range x.somePlaces() {
			held := max(in.N, 0) % 5
			for _, stack := range stacksUpTo(len(p.Kinds), 1) {
				_, how := wantAfter(t, x, in, impl.Flow{Locals: x.begin().Locals, Stack: stack, Held: held})
				counts[how]++
			}
		}
	}
	for _, x := range []placeBook{{p, 0, 2}, {p, 2, 3}} {
		for _, in := range x.rightPlaces() {
			for _, stack := range stacksUpTo(len(p.Kinds), 3) {
				_, how := wantAfter(t, x, in, impl.Flow{Locals: x.begin().Locals, Stack: stack, Held: len(stack)})
				counts[how]++
			}
		}
	}
	for _, stack := range stacksOf(len(p.Kinds), 4) {
		_, how := wantAfter(t, placeBook{p, 0, 2}, ins(impl.OpCall, mainCallOwn), impl.Flow{Locals: typesOf("0i1t"), Stack: stack})
		counts[how]++
	}
	for code, n := range counts {
		if n < 30 {
			t.Errorf("code %d is met %d times: %v", code, n, counts)
		}
	}
}

// someFlow has mostly as many locals as a method has; now and then more or fewer, or a type that is none.
func (d *dice) someFlow(x placeBook) impl.Flow {
	some := func(n int) []impl.Type {
		list := make([]impl.Type, n)
		for i := range list {
			list[i] = rightTypes(len(x.p.Kinds))[d.below(3+len(x.p.Kinds))]
		}
		return list
	}
	f := impl.Flow{Locals: some(x.code().Locals), Stack: some(d.below(7)), Held: d.below(5)}
	switch d.below(40) {
	case 0:
		f.Locals = some(d.below(8))
	case 1:
		f.Stack = some(7 + d.below(2))
	case 2:
		f.Locals[0] = wrongTypes(len(x.p.Kinds))[d.below(20)]
	case 3:
		f.Stack = []impl.Type{wrongTypes(len(x.p.Kinds))[d.below(20)]}
	case 4:
		f.Held = d.below(9) - 2
	}
	return f
}

// stackFor lays on the stack what a place takes, so that After is often done.
func (d *dice) stackFor(x placeBook, in impl.Ins, f impl.Flow) impl.Flow {
	if !x.placeRight(in) {
		return f
	}
	for _, may := range slices.Backward(x.takes(in)) {
		f.Stack = append(f.Stack, may[d.below(len(may))])
	}
	f.Stack = f.Stack[max(len(f.Stack)-6, 0):]
	return f
}

func TestAfterOfManyFlows(t *testing.T) {
	t.Parallel()
	d := dice(120)
	var counts [5]int
	list := eachMethod(flowProg(t))
	for range 30000 {
		x := list[d.below(len(list))]
		places := x.rightPlaces()
		in := places[d.below(len(places))]
		if d.below(8) == 0 {
			in = ins(d.below(27)-1, d.below(12)-2)
		}
		f := d.someFlow(x)
		if d.below(2) == 0 {
			f = d.stackFor(x, in, f)
		}
		_, how := wantAfter(t, x, in, f)
		counts[how]++
	}
	for code, n := range counts {
		if n < 300 {
			t.Errorf("code %d is met %d times: %v", code, n, counts)
		}
	}
}

// wantBy: wherever who knows less gets by, who knows more does, and still knows as much behind it.
func wantBy(t *testing.T, x placeBook, in impl.Ins, more, less impl.Flow) bool {
	t.Helper()
	behind, how := impl.After(x.p, x.k, x.m, in, less)
	if how != impl.VrDone {
		return false
	}
	got, how := impl.After(x.p, x.k, x.m, in, more)
	if how != impl.VrDone || !knowsMore(x.p, got, behind) {
		t.Fatalf("%+v of method %d of class %d: with %+v it is %+v, but with %+v, who knows more, %+v, %d", in, x.m, x.k, less, behind, more, got, how)
	}
	return true
}

// P12, of all flows with two locals and at most one on the stack, and of all with one local and at most two on the stack.
func TestWhoKnowsMoreGetsBy(t *testing.T) {
	t.Parallel()
	p := flowProg(t)
	by := 0
	for _, x := range []placeBook{{p, 0, 0}, {p, 2, 1}, {p, 2, 3}, {p, 0, 1}} {
		var flows []impl.Flow
		for _, locals := range stacksOf(len(p.Kinds), x.code().Locals) {
			for _, stack := range stacksUpTo(len(p.Kinds), 3-x.code().Locals) {
				flows = append(flows, impl.Flow{Locals: locals, Stack: stack, Held: len(stack) % 2})
			}
		}
		for _, in := range x.rightPlaces() {
			by += x.wantAllBy(t, in, flows)
		}
	}
	if by < 100000 {
		t.Errorf("%d pairs get by", by)
	}
}

// wantAllBy asks for P12 of all pairs of flows, After being asked once for each of them.
func (x placeBook) wantAllBy(t *testing.T, in impl.Ins, flows []impl.Flow) int {
	t.Helper()
	var behind []impl.Flow
	var codes []int
	for _, f := range flows {
		got, how := impl.After(x.p, x.k, x.m, in, f)
		behind, codes = append(behind, got), append(codes, how)
	}
	by := 0
	for i, less := range flows {
		if codes[i] != impl.VrDone {
			continue
		}
		for j, more := range flows {
			if !knowsMore(x.p, more, less) {
				continue
			}
			by++
			if codes[j] != impl.VrDone || !knowsMore(x.p, behind[j], behind[i]) {
				t.Fatalf("%+v of method %d of class %d: with %+v it is %+v, but with %+v, who knows more, %+v, %d", in, x.m, x.k, less, behind[i], more, behind[j], codes[j])
			}
		}
	}
	return by
}

// knowingMore turns each type into one that fits it.
func (d *dice) knowingMore(p impl.Prog, f impl.Flow) impl.Flow {
	f = cloneFlow(f)
	for _, list := range [][]impl.Type{f.Locals, f.Stack} {
		for i, was := range list {
			if x := rightTypes(len(p.Kinds))[d.below(3+len(p.Kinds))]; fitsThere(p, x, was) {
				list[i] = x
			}
		}
	}
	return f
}

// P12, of flows of all sizes: at each place, and where two flows meet.
func TestWhoKnowsMoreGetsByOfManyFlows(t *testing.T) {
	t.Parallel()
	d := dice(121)
	by, apart := 0, 0
	list := eachMethod(flowProg(t))
	for range 20000 {
		x := list[d.below(len(list))]
		places := x.rightPlaces()
		in := places[d.below(len(places))]
		less := d.someFlow(x)
		if d.below(5) > 0 {
			less = d.stackFor(x, in, less)
		}
		more := d.knowingMore(x.p, less)
		if wantBy(t, x, in, more, less) {
			by++
			if !sameFlow(more, less) {
				apart++
			}
		}
	}
	if by < 3000 || apart < 2000 {
		t.Errorf("%d get by, %d of them with two flows", by, apart)
	}
}

// P12 of Meet: both know more than what they meet in, so that both get by wherever that does.
func TestWhoMeetsGetsBy(t *testing.T) {
	t.Parallel()
	d := dice(122)
	by := 0
	list := eachMethod(flowProg(t))
	for range 20000 {
		x := list[d.below(len(list))]
		places := x.rightPlaces()
		in := places[d.below(len(places))]
		a := d.stackFor(x, in, d.someFlow(x))
		b := d.knowingMore(x.p, a)
		if d.below(2) == 0 {
			a = d.knowingMore(x.p, a)
		}
		met, how := impl.Meet(x.p, a, b)
		if how != impl.VrDone {
			t.Fatalf("Meet of %+v and %+v is %d", a, b, how)
		}
		if !flowRight(x.p, a) || !flowRight(x.p, b) {
			continue
		}
		if !knowsMore(x.p, a, met) || !knowsMore(x.p, b, met) {
			t.Fatalf("Meet of %+v and %+v is %+v", a, b, met)
		}
		if wantBy(t, x, in, a, met) && wantBy(t, x, in, b, met) {
			by++
		}
		// Who knows more meets in what knows more.
		nearer, _ := impl.Meet(x.p, d.knowingMore(x.p, a), b)
		if !knowsMore(x.p, nearer, met) {
			t.Fatalf("Meet of %+v and %+v is %+v, nearer %+v", a, b, met, nearer)
		}
	}
	if by < 3000 {
		t.Errorf("%d get by", by)
	}
}

func TestMeet(t *testing.T) {
	p := flowProg(t)
	for _, x := range []struct {
		a, b, want impl.Flow
		code       int
	}{
		{impl.Flow{}, impl.Flow{}, impl.Flow{}, impl.VrDone},
		{flowOf("0it", "n1", 2), flowOf("0it", "n1", 2), flowOf("0it", "n1", 2), impl.VrDone},
		// Type by type: a local, and one on the stack, each with its own.
		{flowOf("0", "", 0), flowOf("1", "", 0), flowOf("0", "", 0), impl.VrDone},
		{flowOf("", "1", 0), flowOf("", "3", 0), flowOf("", "0", 0), impl.VrDone},
		{flowOf("tin", "012", 1), flowOf("iii", "333", 1), flowOf("tit", "000", 1), impl.VrDone},
		{flowOf("1n2", "245", 4), flowOf("n21", "n4n", 4), flowOf("121", "245", 4), impl.VrDone},
		{flowOf("i4", "n", 0), flowOf("n5", "i", 0), flowOf("tt", "t", 0), impl.VrDone},
		{flowOf("12345t", "itn012", 3), flowOf("213nt0", "iiiiii", 3), flowOf("1134tt", "ittttt", 3), impl.VrDone},
		{flowOf("12", "", 0), flowOf("21", "", 0), flowOf("11", "", 0), impl.VrDone},
		{flowOf("0", "", 0), flowOf("", "0", 0), impl.Flow{}, impl.VrStack},
		{flowOf("0", "", 0), flowOf("00", "", 0), impl.Flow{}, impl.VrStack},
		{flowOf("00", "i", 0), flowOf("0", "i", 0), impl.Flow{}, impl.VrStack},
		{flowOf("0", "i", 0), flowOf("0", "", 0), impl.Flow{}, impl.VrStack},
		{flowOf("0", "i", 0), flowOf("0", "ii", 0), impl.Flow{}, impl.VrStack},
		{flowOf("0", "", 0), impl.Flow{}, impl.Flow{}, impl.VrStack},
		{flowOf("0", "i", 1), flowOf("0", "i", 0), impl.Flow{}, impl.VrHeld},
		{flowOf("0", "i", 0), flowOf("0", "i", 4), impl.Flow{}, impl.VrHeld},
		{flowOf("", "", 2), flowOf("", "", 3), impl.Flow{}, impl.VrHeld},
		// VrStack ahead of VrHeld.
		{flowOf("0", "i", 1), flowOf("0", "", 0), impl.Flow{}, impl.VrStack},
		{flowOf("0", "i", 1), flowOf("", "i", 0), impl.Flow{}, impl.VrStack},
		{flowOf("00", "", 1), flowOf("0", "i", 0), impl.Flow{}, impl.VrStack},
	} {
		for _, turned := range []bool{false, true} {
			a, b := x.a, x.b
			if turned {
				a, b = b, a
			}
			if got, how := impl.Meet(p, a, b); how != x.code || !sameFlow(got, x.want) {
				t.Errorf("Meet of %+v and %+v is %+v, %d; want %+v, %d", a, b, got, how, x.want, x.code)
			}
		}
	}
}

// meetThere is what Meet has to answer in a program of which the types are joined by the test's own; what is no type is joined to KdTop.
func meetThere(p impl.Prog, a, b impl.Flow) (impl.Flow, int) {
	if len(a.Locals) != len(b.Locals) || len(a.Stack) != len(b.Stack) {
		return impl.Flow{}, 1
	}
	if a.Held != b.Held {
		return impl.Flow{}, 4
	}
	join := func(x, y impl.Type) impl.Type {
		if right := rightTypes(len(p.Kinds)); !slices.Contains(right, x) || !slices.Contains(right, y) {
			return topType
		}
		return leastThere(p, x, y)[0]
	}
	out := cloneFlow(a)
	for i := range a.Locals {
		out.Locals[i] = join(a.Locals[i], b.Locals[i])
	}
	for i := range a.Stack {
		out.Stack[i] = join(a.Stack[i], b.Stack[i])
	}
	return out, 0
}

func wantMeet(t *testing.T, p impl.Prog, a, b impl.Flow) int {
	t.Helper()
	want, code := meetThere(p, a, b)
	got, how := impl.Meet(p, a, b)
	if how != code || !sameFlow(got, want) {
		t.Fatalf("Meet of %+v and %+v is %+v, %d; want %+v, %d", a, b, got, how, want, code)
	}
	return how
}

func TestMeetOfEachTwoTypes(t *testing.T) {
	p := flowProg(t)
	list := append(rightTypes(len(p.Kinds)), wrongTypes(len(p.Kinds))...)
	for _, x := range list {
		for _, y := range list {
			wantMeet(t, p, impl.Flow{Locals: []impl.Type{x}}, impl.Flow{Locals: []impl.Type{y}})
			wantMeet(t, p, impl.Flow{Stack: []impl.Type{x}}, impl.Flow{Stack: []impl.Type{y}})
			wantMeet(t, p, impl.Flow{Locals: []impl.Type{intType, x}, Stack: []impl.Type{y, nullType}, Held: 3}, impl.Flow{Locals: []impl.Type{nullType, y}, Stack: []impl.Type{x, refType(1)}, Held: 3})
		}
	}
}

// The chapter asks for no FlowOk of what meets: other numbers than there may be meet like others.
func TestMeetOfFlowsThatAreNotRight(t *testing.T) {
	p := flowProg(t)
	for _, held := range append(edgeNumbers(), 5, 6) {
		if got, how := impl.Meet(p, flowOf("0", "1", held), flowOf("1", "3", held)); how != impl.VrDone || !sameFlow(got, flowOf("0", "0", held)) {
			t.Errorf("%d held: %+v, %d", held, got, how)
		}
		if got, how := impl.Meet(p, flowOf("0", "1", held), flowOf("1", "3", 1)); how != impl.VrHeld || !sameFlow(got, impl.Flow{}) {
			t.Errorf("%d and 1 held: %+v, %d", held, got, how)
		}
	}
	if got, how := impl.Meet(p, flowOf("iiiiiiii", "1111111", 0), flowOf("iiiiiii0", "2222222", 0)); how != impl.VrDone || !sameFlow(got, flowOf("iiiiiiit", "1111111", 0)) {
		t.Errorf("%+v, %d", got, how)
	}
}

func TestMeetOfManyFlows(t *testing.T) {
	d := dice(123)
	var counts [5]int
	list := eachMethod(flowProg(t))
	for range 10000 {
		x := list[d.below(len(list))]
		a := d.someFlow(x)
		b := d.someFlow(x)
		if d.below(2) == 0 {
			b.Held = a.Held
		}
		if d.below(2) == 0 {
			b.Stack = d.knowingMore(x.p, a).Stack
		}
		counts[wantMeet(t, x.p, a, b)]++
	}
	if counts[impl.VrDone] < 1000 || counts[impl.VrStack] < 1000 || counts[impl.VrHeld] < 1000 {
		t.Errorf("%v", counts)
	}
}

// In programs that are not right FlowOk and Meet go by their types, for which the chapter names no other answer.
func TestFlowOkAndMeetOfTwistedPrograms(t *testing.T) {
	for _, p := range twistedProgs() {
		list := rightTypes(len(p.Kinds))
		for _, x := range list {
			f := impl.Flow{Locals: []impl.Type{x, topType}, Stack: []impl.Type{nullType, x}}
			if !impl.FlowOk(p, f) {
				t.Fatalf("%+v: FlowOk of %+v is false", p, f)
			}
			for _, y := range list {
				got, how := impl.Meet(p, f, impl.Flow{Locals: []impl.Type{y, intType}, Stack: []impl.Type{y, y}})
				want := flowOf("tt", "tt", 0)
				want.Locals[0], want.Stack[0], want.Stack[1] = impl.Join(p, x, y), impl.Join(p, nullType, y), impl.Join(p, x, y)
				if how != impl.VrDone || !sameFlow(got, want) {
					t.Fatalf("%+v: Meet of %+v and %+v is %+v, %d", p, x, y, got, how)
				}
			}
		}
		if f := (impl.Flow{Stack: []impl.Type{refType(len(p.Kinds))}}); impl.FlowOk(p, f) {
			t.Fatalf("%+v: FlowOk of %+v is true", p, f)
		}
	}
}

// P33: what is far too much is answered, too.
func TestFlowsThatAreFarTooGreat(t *testing.T) {
	const many = 1 << 18
	p := flowProg(t)
	long := make([]impl.Type, many)
	for _, f := range []impl.Flow{{Locals: long}, {Stack: long}, {Locals: typesOf("0i1t"), Stack: long}, {Locals: long, Stack: long, Held: 4}} {
		for range 100 {
			if impl.FlowOk(p, f) {
				t.Fatal("FlowOk")
			}
			wantNoAfter(t, p, 0, 2, bare(impl.OpPop), f)
		}
		if got, how := impl.Meet(p, f, f); how != impl.VrDone || !sameFlow(got, f) {
			t.Error("Meet", how)
		}
		if got, how := impl.Meet(p, f, impl.Flow{}); how != impl.VrStack || !sameFlow(got, impl.Flow{}) {
			t.Error("Meet", how)
		}
	}
}

// A flowAsk is what may be asked for with one flow.
type flowAsk struct {
	what string
	ask  func(f impl.Flow) (impl.Flow, int)
}

func flowAsks(x placeBook) []flowAsk {
	meet := func(f impl.Flow) (impl.Flow, int) { return impl.Meet(x.p, f, f) }
	list := []flowAsk{
		{"Meet", meet},
		{"Meet with what was at the beginning", func(f impl.Flow) (impl.Flow, int) { return impl.Meet(x.p, f, x.begin()) }},
		{"Meet of what was at the beginning", func(f impl.Flow) (impl.Flow, int) { return impl.Meet(x.p, x.begin(), f) }},
	}
	for _, in := range append(x.rightPlaces(), ins(0, 0), ins(impl.OpLoad, 6), push(128)) {
		list = append(list, flowAsk{fmt.Sprintf("After of %+v", in), func(f impl.Flow) (impl.Flow, int) { return impl.After(x.p, x.k, x.m, in, f) }})
	}
	return list
}

func flowsForMemory(x placeBook) []impl.Flow {
	list := []impl.Flow{x.begin(), {}}
	for _, stack := range []string{"i", "n", "0", "ii", "00", "0i", "01", "0i1", "34ii", "iiiiii", "iiiiiii", "tin", "2i1"} {
		for _, held := range []int{0, 1, 4, 5} {
			list = append(list, impl.Flow{Locals: x.begin().Locals, Stack: typesOf(stack), Held: held})
		}
	}
	return list
}

func methodsForMemory(p impl.Prog) []placeBook {
	return []placeBook{{p, 0, 2}, {p, 2, 3}, {p, 3, 0}, {p, 1, 1}}
}

// P33: neither the types of a flow nor the spare room behind them are written.
func TestFlowsAreNotWritten(t *testing.T) {
	for _, x := range methodsForMemory(flowProg(t)) {
		for _, f := range flowsForMemory(x) {
			for _, y := range flowAsks(x) {
				given := f
				var locals, stack []impl.Type
				given.Locals, locals = roomy(f.Locals, refType(77))
				given.Stack, stack = roomy(f.Stack, refType(88))
				wereLocals, wereStack := slices.Clone(locals), slices.Clone(stack)
				got, how := y.ask(given)
				want, code := y.ask(cloneFlow(f))
				if impl.FlowOk(x.p, given) != impl.FlowOk(x.p, f) || how != code || !sameFlow(got, want) {
					t.Fatalf("%s of %+v hangs on the room behind it", y.what, f)
				}
				if !slices.Equal(locals, wereLocals) || !slices.Equal(stack, wereStack) {
					t.Fatalf("%s of %+v writes into it: %+v, %+v", y.what, f, locals, stack)
				}
			}
		}
	}
}

// flowApart: the two lists of a flow share no memory, up to the end of their spare room.
func flowApart(f impl.Flow) bool {
	lists := [][]impl.Type{f.Locals[:cap(f.Locals)], f.Stack[:cap(f.Stack)]}
	return marked(lists, func(x *impl.Type, n int) { x.Class = n }, func(x impl.Type) int { return x.Class })
}

// P33: an answer shares no memory with a flow, nor with another answer, and its two lists share none.
func TestFlowsAreNewMemory(t *testing.T) {
	for _, x := range methodsForMemory(flowProg(t)) {
		for _, f := range flowsForMemory(x) {
			for _, y := range flowAsks(x) {
				given := cloneFlow(f)
				given.Locals, _ = roomy(given.Locals, refType(77))
				given.Stack, _ = roomy(given.Stack, refType(88))
				first, _ := y.ask(given)
				second, _ := y.ask(given)
				want := cloneFlow(second)
				spoilAll(first.Locals, refType(55))
				spoilAll(first.Stack, refType(55))
				if !sameFlow(given, f) || !sameFlow(second, want) || given.Locals[:cap(given.Locals)][len(f.Locals)] != refType(77) || given.Stack[:cap(given.Stack)][len(f.Stack)] != refType(88) {
					t.Fatalf("what %s makes of %+v shares memory", y.what, f)
				}
				spoilAll(given.Locals, refType(66))
				spoilAll(given.Stack, refType(66))
				if !sameFlow(second, want) || !flowApart(second) {
					t.Fatalf("what %s makes of %+v shares memory with it, or with itself", y.what, f)
				}
			}
		}
		first, second := impl.Begin(x.p, x.k, x.m), impl.Begin(x.p, x.k, x.m)
		spoilAll(first.Locals, refType(55))
		spoilAll(first.Stack, refType(55))
		if !sameFlow(second, x.begin()) || !sameFlow(impl.Begin(x.p, x.k, x.m), x.begin()) || !flowApart(second) {
			t.Fatalf("Begin of method %d of class %d shares memory", x.m, x.k)
		}
	}
}

// Of a Meet of two flows nothing is written into either, and nothing of either is in what is answered.
func TestMeetIsNewMemory(t *testing.T) {
	p := flowProg(t)
	a, b := flowOf("12i", "34", 1), flowOf("21n", "35", 1)
	a.Locals, _ = roomy(a.Locals, refType(77))
	b.Stack, _ = roomy(b.Stack, refType(88))
	got, _ := impl.Meet(p, a, b)
	spoilAll(got.Locals, refType(55))
	spoilAll(got.Stack, refType(55))
	if !sameFlow(a, flowOf("12i", "34", 1)) || !sameFlow(b, flowOf("21n", "35", 1)) || a.Locals[:4][3] != refType(77) || b.Stack[:3][2] != refType(88) {
		t.Errorf("%+v, %+v", a, b)
	}
}

// tellFlows: what the functions of this chapter answer to a program.
func tellFlows(p impl.Prog) string {
	var told strings.Builder
	tell := func(f impl.Flow, how int) { fmt.Fprintln(&told, f, how) }
	flows := []impl.Flow{{}, flowOf("0", "i", 0), flowOf("0i1t", "0i1", 1), flowOf("2", "2", 4), flowOf("0t", "0n", 5), flowOf("7", "7", 0)}
	for _, f := range flows {
		fmt.Fprint(&told, impl.FlowOk(p, f))
		for _, g := range flows {
			tell(impl.Meet(p, f, g))
		}
	}
	for _, at := range [][2]int{{0, 0}, {0, 2}, {2, 3}, {1, 1}, {6, 0}, {0, 6}, {-1, -1}} {
		begin := impl.Begin(p, at[0], at[1])
		fmt.Fprintln(&told, begin)
		for _, in := range []impl.Ins{push(1), ins(impl.OpNew, 0), ins(impl.OpCall, 1), ins(impl.OpGet, 3), ins(impl.OpConst, 2), ret(), ins(impl.OpNew, 10), ins(impl.OpLoad, 1)} {
			tell(impl.After(p, at[0], at[1], in, begin))
			tell(impl.After(p, at[0], at[1], in, flows[2]))
		}
	}
	return told.String()
}

func progsForFlows(t *testing.T) []impl.Prog {
	list := []impl.Prog{flowProg(t), progOf(t, mainText), {}}
	list = append(list, twistedProgs()[:40]...)
	for i, p := range listTurns(list[0]) {
		if i%4 == 0 {
			list = append(list, p)
		}
	}
	return list
}

// P33: neither the classes, nor their lists, nor the spare room behind them are written; what stands there does not count.
func TestFlowsWriteNoProgram(t *testing.T) { wantUnwritten(t, progsForFlows(t), tellFlows) }

func TestFlowsKeepNothing(t *testing.T) { wantToldAgain(t, progsForFlows(t), tellFlows) }
