package tests

import (
	"fmt"
	"math"
	"slices"
	"strings"
	"testing"

	"loop.example/g00283/impl"
)

var (
	topType  = impl.Type{}
	intType  = impl.Type{Kind: impl.KdInt}
	nullType = impl.Type{Kind: impl.KdNull}
)

func refType(class int) impl.Type { return impl.Type{Kind: impl.KdRef, Class: class} }

// rightTypes has all types that there are with so many classes.
func rightTypes(classes int) []impl.Type {
	list := []impl.Type{topType, intType, nullType}
	for k := range classes {
		list = append(list, refType(k))
	}
	return list
}

// wrongTypes has types of which none is one with so many classes: each Kind with a Class that it can't have, and Kinds that are none.
func wrongTypes(classes int) []impl.Type {
	var list []impl.Type
	for _, class := range append(edgeNumbers(), classes, classes+1) {
		list = append(list, refType(class))
	}
	for _, class := range append(edgeNumbers(), 1, 2, 5, 6, 7) {
		list = append(list, impl.Type{Kind: impl.KdTop, Class: class}, impl.Type{Kind: impl.KdInt, Class: class}, impl.Type{Kind: impl.KdNull, Class: class})
	}
	for _, kind := range append(edgeNumbers(), impl.KdRef+1, impl.KdRef+2, 256, 256+impl.KdRef) {
		for _, class := range []int{-1, 0, 1, classes - 1, classes} {
			list = append(list, impl.Type{Kind: kind, Class: class})
		}
	}
	return list
}

// A valueBook tells what a type means without asking for another type: which values are of it. A value is a word (-1), null (-2), or an
// object of just a class (its number); what is of KdTop only, where nothing is known, is a value too (-3).
type valueBook impl.Prog

func (x valueBook) has(t impl.Type, value int) bool {
	switch t.Kind {
	case impl.KdInt:
		return value == -1
	case impl.KdNull:
		return value == -2
	case impl.KdRef:
		return value == -2 || value >= 0 && subThere(impl.Prog(x), value, t.Class)
	}
	return true
}

// holds: whatever is a is b. It wants types that are right, and supers ahead of their classes.
func (x valueBook) holds(a, b impl.Type) bool {
	for value := -3; value < len(x.Kinds); value++ {
		if x.has(a, value) && !x.has(b, value) {
			return false
		}
	}
	return true
}

// fitsThere goes by the document's list, of types that are right.
func fitsThere(p impl.Prog, a, b impl.Type) bool {
	return b == topType || a == b || a == nullType && b.Kind == impl.KdRef ||
		a.Kind == impl.KdRef && b.Kind == impl.KdRef && subThere(p, a.Class, b.Class)
}

// leastThere has all types that both fit, and that fit each other one that both fit.
func leastThere(p impl.Prog, a, b impl.Type) []impl.Type {
	var both, least []impl.Type
	for _, c := range rightTypes(len(p.Kinds)) {
		if fitsThere(p, a, c) && fitsThere(p, b, c) {
			both = append(both, c)
		}
	}
	for _, c := range both {
		if !slices.ContainsFunc(both, func(d impl.Type) bool { return !fitsThere(p, c, d) }) {
			least = append(least, c)
		}
	}
	return least
}

// wantJoined asks for P11, and that no type is nearer.
func wantJoined(t *testing.T, p impl.Prog, a, b impl.Type) {
	t.Helper()
	c := impl.Join(p, a, b)
	if !impl.TypeOk(p, c) || !impl.Fits(p, a, c) || !impl.Fits(p, b, c) {
		t.Fatalf("%+v: %+v and %+v do not both fit %+v, which is joined of them", p, a, b, c)
	}
	if least := leastThere(p, a, b); !slices.Contains(least, c) {
		t.Fatalf("%+v: Join of %+v and %+v is %+v, want one of %+v", p, a, b, c, least)
	}
}

// wantTypes holds the functions on types against the test's own, over all types that there are.
func wantTypes(t *testing.T, p impl.Prog) {
	t.Helper()
	list := rightTypes(len(p.Kinds))
	for _, a := range list {
		if !impl.TypeOk(p, a) {
			t.Fatalf("%+v: TypeOk of %+v is false", p, a)
		}
		for _, b := range list {
			if got := impl.Fits(p, a, b); got != fitsThere(p, a, b) {
				t.Fatalf("%+v: Fits of %+v and %+v is %v", p, a, b, got)
			}
			wantJoined(t, p, a, b)
		}
		if got := impl.Join(p, a, a); got != a {
			t.Fatalf("%+v: Join of %+v with itself is %+v", p, a, got)
		}
	}
}

// wantNoFit: where one is not TypeOk, it is no answer but false and KdTop, on whichever side it is.
func wantNoFit(t *testing.T, p impl.Prog, a, b impl.Type) {
	t.Helper()
	if impl.Fits(p, a, b) || impl.Fits(p, b, a) {
		t.Fatalf("%+v: %+v fits %+v, or the other way round", p, a, b)
	}
	if impl.Join(p, a, b) != topType || impl.Join(p, b, a) != topType {
		t.Fatalf("%+v: Join of %+v and %+v is %+v and %+v", p, a, b, impl.Join(p, a, b), impl.Join(p, b, a))
	}
}

// wantWrongTypes: on either side, on both, and the same one twice.
func wantWrongTypes(t *testing.T, p impl.Prog) {
	t.Helper()
	wrong := wrongTypes(len(p.Kinds))
	for _, a := range wrong {
		if impl.TypeOk(p, a) {
			t.Fatalf("%+v: TypeOk of %+v is true", p, a)
		}
		for _, b := range rightTypes(len(p.Kinds)) {
			wantNoFit(t, p, a, b)
		}
		for _, b := range wrong {
			wantNoFit(t, p, a, b)
		}
	}
}

func TestTypeConstants(t *testing.T) {
	for i, kind := range []int{impl.KdTop, impl.KdInt, impl.KdNull, impl.KdRef} {
		if kind != i {
			t.Errorf("kind %d is %d", i, kind)
		}
	}
}

func TestTypeOk(t *testing.T) {
	p := progOf(t, familyText)
	one := progOf(t, mainText)
	for _, x := range []struct {
		p    impl.Prog
		t    impl.Type
		want bool
	}{
		{p, topType, true}, {p, intType, true}, {p, nullType, true}, {p, refType(0), true}, {p, refType(1), true}, {p, refType(5), true},
		{p, refType(-1), false}, {p, refType(6), false}, {p, refType(7), false}, {p, refType(math.MaxInt), false}, {p, refType(math.MinInt), false},
		{p, impl.Type{Kind: impl.KdTop, Class: 1}, false}, {p, impl.Type{Kind: impl.KdTop, Class: -1}, false},
		{p, impl.Type{Kind: impl.KdInt, Class: 1}, false}, {p, impl.Type{Kind: impl.KdInt, Class: -1}, false},
		{p, impl.Type{Kind: impl.KdNull, Class: 1}, false}, {p, impl.Type{Kind: impl.KdNull, Class: -1}, false},
		{p, impl.Type{Kind: -1}, false}, {p, impl.Type{Kind: 4}, false}, {p, impl.Type{Kind: -1, Class: 1}, false}, {p, impl.Type{Kind: 4, Class: 1}, false},
		{one, topType, true}, {one, intType, true}, {one, nullType, true}, {one, refType(0), true}, {one, refType(1), false}, {one, refType(-1), false},
		{impl.Prog{}, topType, true}, {impl.Prog{}, intType, true}, {impl.Prog{}, nullType, true}, {impl.Prog{}, refType(0), false}, {impl.Prog{}, refType(-1), false},
	} {
		if impl.TypeOk(x.p, x.t) != x.want {
			t.Errorf("TypeOk of %+v with %d classes is %v", x.t, len(x.p.Kinds), !x.want)
		}
	}
}

func TestTypeOf(t *testing.T) {
	p := progOf(t, familyText)
	for i, name := range []string{"Main", "Kid", "Far", "Twin", "Lone", "Bare"} {
		if got := impl.TypeOf(p, name); got != refType(i) {
			t.Errorf("TypeOf %s is %+v", name, got)
		}
	}
	for _, p := range []impl.Prog{p, progOf(t, mainText), {}} {
		if got := impl.TypeOf(p, "I"); got != intType {
			t.Errorf("TypeOf I is %+v with %d classes", got, len(p.Kinds))
		}
		for _, name := range []string{"", "i", "II", "I ", "main", "MAIN", "Mai", "Mains", "run", "n", "KdInt", "null", "\xff", "\x00", strings.Repeat("Main", 1000)} {
			if got := impl.TypeOf(p, name); got != topType {
				t.Errorf("TypeOf %.20q is %+v with %d classes", name, got, len(p.Kinds))
			}
		}
	}
	if impl.TypeOf(progOf(t, mainText), "Main") != refType(0) || impl.TypeOf(progOf(t, mainText), "Kid") != topType || impl.TypeOf(impl.Prog{}, "Main") != topType {
		t.Error("a program of one class, or of none")
	}
	// What stands in the spare room behind the classes is no class.
	if cut := (impl.Prog{Kinds: p.Kinds[:2]}); impl.TypeOf(cut, "Far") != topType || impl.TypeOf(cut, "Kid") != refType(1) {
		t.Error("the spare room")
	}
}

// Of programs that are not in order `I` is a word, even where a class has that name, and of two classes of one name the first one is told.
func TestTypeOfInWrongPrograms(t *testing.T) {
	p := impl.Prog{Kinds: []impl.Kind{{Name: "I"}, {Name: "a1", Super: 9}, {Name: "B", Super: 2}, {Name: "B", Super: -7}}}
	for _, x := range []struct {
		name string
		want impl.Type
	}{{"I", intType}, {"a1", refType(1)}, {"B", refType(2)}, {"b", topType}, {"", topType}} {
		if got := impl.TypeOf(p, x.name); got != x.want {
			t.Errorf("TypeOf %q is %+v, want %+v", x.name, got, x.want)
		}
	}
}

// What TypeOf tells is TypeOk, and a name that is told as a class is that of this class.
func TestTypeOfIsRight(t *testing.T) {
	d := dice(11)
	names := []string{"I", "Main", "A", "B", "C", "D", "E", ""}
	found := 0
	for range 500 {
		p := impl.Prog{}
		for range d.below(9) {
			p.Kinds = append(p.Kinds, impl.Kind{Name: d.of("I", "Main", "A", "B", "C"), Super: d.below(9) - 1})
		}
		for _, name := range names {
			got, at := impl.TypeOf(p, name), impl.KindOf(p, name)
			want := topType
			if name == "I" {
				want = intType
			} else if at >= 0 {
				want = refType(at)
				found++
			}
			if got != want || !impl.TypeOk(p, got) {
				t.Fatalf("TypeOf %q of %+v is %+v, want %+v", name, p, got, want)
			}
		}
	}
	if found < 500 {
		t.Errorf("%d found", found)
	}
}

// Each kind of type with each other, in familyText: Main, below it Kid and Twin, below Kid Far; Lone and Bare are no kin.
func TestFits(t *testing.T) {
	p := progOf(t, familyText)
	list := []impl.Type{topType, intType, nullType, refType(0), refType(1), refType(2), refType(3), refType(4), refType(5)}
	// A row tells, of one type, which of the list it fits, in order.
	for i, row := range []string{
		"x........",
		"xx.......",
		"x.xxxxxxx",
		"x..x.....",
		"x..xx....",
		"x..xxx...",
		"x..x..x..",
		"x......x.",
		"x.......x",
	} {
		for j, b := range list {
			if got := impl.Fits(p, list[i], b); got != (row[j] == 'x') {
				t.Errorf("Fits of %+v and %+v is %v", list[i], b, got)
			}
		}
	}
}

func TestJoin(t *testing.T) {
	p := progOf(t, familyText)
	main, kid, far, twin, lone, bare := refType(0), refType(1), refType(2), refType(3), refType(4), refType(5)
	for _, x := range []struct{ a, b, want impl.Type }{
		{topType, topType, topType}, {topType, intType, topType}, {topType, nullType, topType}, {topType, main, topType}, {topType, far, topType},
		{intType, intType, intType}, {intType, nullType, topType}, {intType, main, topType}, {intType, bare, topType},
		{nullType, nullType, nullType}, {nullType, main, main}, {nullType, kid, kid}, {nullType, far, far}, {nullType, bare, bare},
		{main, main, main}, {far, far, far}, {bare, bare, bare},
		{kid, main, main}, {twin, main, main}, {far, kid, kid}, {far, main, main},
		{kid, twin, main}, {far, twin, main},
		{lone, main, topType}, {lone, far, topType}, {lone, bare, topType}, {bare, kid, topType},
	} {
		if got, turned := impl.Join(p, x.a, x.b), impl.Join(p, x.b, x.a); got != x.want || turned != x.want {
			t.Errorf("Join of %+v and %+v is %+v, and turned %+v, want %+v", x.a, x.b, got, turned, x.want)
		}
	}
}

// Of a super together that is nearer than another one above it, the nearer one is told, wherever the classes stand.
func TestJoinIsTheNearest(t *testing.T) {
	for _, x := range []struct {
		text    string
		a, b, c string
	}{
		{"class A Main\nclass B A\nclass C A\n", "B", "C", "A"},
		{"class A Main\nclass B A\nclass C A\nclass D C\n", "B", "D", "A"},
		{"class A Main\nclass B A\nclass C B\nclass D B\nclass E D\n", "C", "E", "B"},
		{"class A Main\nclass B A\nclass C A\nclass D B\nclass E C\n", "D", "E", "A"},
		{"class A\nclass B A\nclass C Main\nclass D B\nclass E A\n", "D", "E", "A"},
		{"class A Main\nclass B A\nclass C B\nclass D C\nclass E Main\n", "D", "E", "Main"},
		{"class A Main\nclass B A\nclass C B\nclass D C\nclass E D\n", "E", "Main", "Main"},
		{"class A Main\nclass B A\nclass C B\nclass D C\nclass E D\n", "E", "D", "D"},
	} {
		p := progOf(t, mainText+x.text)
		a, b, want := impl.TypeOf(p, x.a), impl.TypeOf(p, x.b), impl.TypeOf(p, x.c)
		if impl.Join(p, a, b) != want || impl.Join(p, b, a) != want {
			t.Errorf("%q: Join of %s and %s is %+v and %+v, want %+v", x.text, x.a, x.b, impl.Join(p, a, b), impl.Join(p, b, a), want)
		}
		wantTypes(t, p)
	}
}

func TestTypesOfSmallPrograms(t *testing.T) {
	for _, p := range []impl.Prog{{}, progOf(t, mainText), progOf(t, mainText+"class A\n"), progOf(t, mainText+"class A Main\n"), progOf(t, familyText)} {
		wantTypes(t, p)
		wantWrongTypes(t, p)
	}
	// Without classes null and words are all that there is.
	if impl.Join(impl.Prog{}, nullType, nullType) != nullType || impl.Join(impl.Prog{}, intType, intType) != intType || impl.Join(impl.Prog{}, nullType, intType) != topType || impl.Join(impl.Prog{}, refType(0), refType(0)) != topType || impl.Join(impl.Prog{}, nullType, refType(0)) != topType {
		t.Error("a program of no class")
	}
}

// A wrong type is joined and fits nothing, not even itself or KdTop.
func TestWrongTypes(t *testing.T) {
	p := progOf(t, familyText)
	for _, wrong := range []impl.Type{{Kind: -1}, {Kind: 4}, {Kind: 4, Class: 1}, refType(-1), refType(6), {Kind: impl.KdTop, Class: 1}, {Kind: impl.KdInt, Class: 1}, {Kind: impl.KdNull, Class: 1}} {
		wantNoFit(t, p, wrong, wrong)
		wantNoFit(t, p, wrong, topType)
		wantNoFit(t, p, nullType, wrong)
		wantNoFit(t, p, wrong, refType(0))
		wantNoFit(t, p, wrong, refType(-1))
	}
	wantWrongTypes(t, p)
}

// eachLine calls with each choice of so many supers from least on.
func eachLine(classes, least int, call func(supers []int)) {
	supers := make([]int, classes)
	var choose func(at int)
	choose = func(at int) {
		if at == classes {
			call(supers)
			return
		}
		for super := least; super <= classes; super++ {
			supers[at] = super
			choose(at + 1)
		}
	}
	choose(0)
}

// supersAhead: each super stands ahead of its class, or there is none.
func supersAhead(supers []int) bool {
	for i, super := range supers {
		if super < -1 || super >= i {
			return false
		}
	}
	return true
}

// P11, of all programs of few classes: supers that are ahead, that are not, that are none, that are themselves, and rings.
func TestBothFitWhatIsJoined(t *testing.T) {
	right := 0
	for classes := range 5 {
		eachLine(classes, -2, func(supers []int) {
			p := supersOf(supers...)
			wantTypes(t, p)
			if supersAhead(supers) {
				right++
				wantTreeTypes(t, p)
			}
		})
	}
	if right != 1+1+2+6+24 {
		t.Errorf("%d programs in order", right)
	}
}

// wantTreeTypes: in a program that is in order Fits is what types mean, and Join hangs neither on which is first nor on which two are joined first.
func wantTreeTypes(t *testing.T, p impl.Prog) {
	t.Helper()
	list := rightTypes(len(p.Kinds))
	for _, a := range list {
		for _, b := range list {
			if impl.Fits(p, a, b) != valueBook(p).holds(a, b) {
				t.Fatalf("%+v: Fits of %+v and %+v is %v", p, a, b, impl.Fits(p, a, b))
			}
			if least := leastThere(p, a, b); len(least) != 1 || impl.Join(p, b, a) != least[0] || impl.Join(p, a, b) != least[0] {
				t.Fatalf("%+v: Join of %+v and %+v is %+v and %+v, want %+v", p, a, b, impl.Join(p, a, b), impl.Join(p, b, a), least)
			}
			for _, c := range list {
				if impl.Join(p, impl.Join(p, a, b), c) != impl.Join(p, a, impl.Join(p, b, c)) {
					t.Fatalf("%+v: Join of %+v, %+v and %+v hangs on which are joined first", p, a, b, c)
				}
			}
		}
	}
}

func TestTypesOfAllPrograms(t *testing.T) {
	t.Parallel()
	for classes := 1; classes <= 6; classes++ {
		supers := make([]int, classes)
		for choice := range 720 {
			// Place i has i+1 choices ahead of it: the digits of a number tell one each.
			for i := range supers {
				supers[i] = choice%(i+1) - 1
				choice /= i + 1
			}
			p := supersOf(supers...)
			wantTypes(t, p)
			wantTreeTypes(t, p)
		}
	}
}

// twistedProgs are not in order, or have more classes than there may be.
func twistedProgs() []impl.Prog {
	list := []impl.Prog{
		supersOf(0), supersOf(1), supersOf(5), supersOf(-5), supersOf(math.MaxInt), supersOf(math.MinInt),
		supersOf(1, 0), supersOf(1, 2, 0), supersOf(1, 1, 1), supersOf(2, 2, 2, 2), supersOf(1, 2, 1, 2), supersOf(2, 3, 3, 2), supersOf(2, 3, 3, 4, 2),
		supersOf(1, 2, 3, 4, 5, 0), supersOf(5, 0, 1, 2, 3, 4), supersOf(1, 2, 3, 4, 5, 6), supersOf(1, 2, 3, 4, 5, 6, 0), supersOf(1, 2, 3, 4, 5, 6, 7, 0), supersOf(1, 2, 3, 4, 5, 6, 7, 8, 0),
		supersOf(-1, 0, 1, 2, 3, 4, 5), supersOf(-1, 0, 1, 2, 3, 4, 5, 6), supersOf(-1, 0, 1, 2, 3, 4, 5, 6, 7, 8, 9), supersOf(-1, 0, 1, 2, 3, 4, 5, 6, 0, 8, 9, 10, 11, 12, 13),
		supersOf(9, 0, 0, 1), supersOf(-2, 0, 0, 1), supersOf(math.MaxInt, math.MinInt, 0, 1, 0, 1), supersOf(256, 0, 0), supersOf(1<<32, 0, 0),
	}
	d := dice(23)
	for range 150 {
		classes := 1 + d.below(12)
		var supers []int
		for range classes {
			supers = append(supers, d.below(classes+3)-2)
		}
		list = append(list, supersOf(supers...))
	}
	return list
}

func TestTypesOfTwistedPrograms(t *testing.T) {
	t.Parallel()
	for _, p := range twistedProgs() {
		if impl.ProgOk(p) {
			t.Fatalf("%+v is in order", p)
		}
		wantTypes(t, p)
		wantWrongTypes(t, p)
	}
	// A super that is no class is above nothing.
	for _, super := range []int{-2, 3, 9, math.MaxInt, math.MinInt} {
		p := supersOf(super, super, 0)
		if impl.Join(p, refType(0), refType(1)) != topType || impl.Join(p, refType(2), refType(1)) != topType || impl.Join(p, refType(2), refType(0)) != refType(0) || impl.Fits(p, refType(0), refType(super)) {
			t.Errorf("a super %d", super)
		}
	}
	// In a ring each fits each; two that go round in rings of their own have nothing together.
	ring, rings := supersOf(1, 2, 3, 0), supersOf(1, 0, 3, 2)
	for a := range 4 {
		for b := range 4 {
			if !impl.Fits(ring, refType(a), refType(b)) || impl.Join(ring, refType(a), refType(b)).Kind != impl.KdRef {
				t.Errorf("%d and %d of a ring", a, b)
			}
			if apart := a/2 != b/2; impl.Fits(rings, refType(a), refType(b)) == apart || (impl.Join(rings, refType(a), refType(b)) == topType) != apart {
				t.Errorf("%d and %d of two rings", a, b)
			}
		}
	}
}

// What is MaxClasses steps above is reached, what is one more is not: then a nearer one, if there is one, or nothing is joined.
func TestJoinCountsSteps(t *testing.T) {
	line := supersOf(-1, 0, 1, 2, 3, 4, 5, 6)
	for _, x := range []struct{ a, b, want impl.Type }{
		{refType(6), refType(0), refType(0)}, {refType(7), refType(1), refType(1)}, {refType(7), refType(0), topType},
	} {
		if impl.Join(line, x.a, x.b) != x.want || impl.Join(line, x.b, x.a) != x.want {
			t.Errorf("Join of %+v and %+v is %+v and %+v, want %+v", x.a, x.b, impl.Join(line, x.a, x.b), impl.Join(line, x.b, x.a), x.want)
		}
	}
	// Two lines down from class 0: one of six steps, or of seven, and one of a single step.
	fork := supersOf(-1, 0, 1, 2, 3, 4, 5, 6, 0)
	for _, x := range []struct {
		a    int
		want impl.Type
	}{{6, refType(0)}, {7, topType}} {
		if impl.Join(fork, refType(x.a), refType(8)) != x.want || impl.Join(fork, refType(8), refType(x.a)) != x.want {
			t.Errorf("Join of %d and 8 is %+v and %+v, want %+v", x.a, impl.Join(fork, refType(x.a), refType(8)), impl.Join(fork, refType(8), refType(x.a)), x.want)
		}
	}
}

func TestTypesOfFarTooManyClasses(t *testing.T) {
	const many = 100000
	var line, ring impl.Prog
	for k := range many {
		line.Kinds = append(line.Kinds, impl.Kind{Super: k - 1})
		ring.Kinds = append(ring.Kinds, impl.Kind{Super: (k + 1) % many})
	}
	for range 1000 {
		if !impl.TypeOk(line, refType(many-1)) || impl.TypeOk(line, refType(many)) || impl.Join(line, refType(many-1), refType(0)) != topType || impl.Join(line, refType(many-1), refType(many-7)) != refType(many-7) {
			t.Fatal("a long line")
		}
		if impl.Fits(ring, refType(0), refType(many-1)) || !impl.Fits(ring, refType(many-1), refType(0)) || impl.Join(ring, refType(0), refType(many/2)) != topType || impl.Join(ring, refType(many-1), refType(1)) != refType(1) {
			t.Fatal("a long ring")
		}
	}
}

// tellTypes: what the functions of this chapter answer to a program.
func tellTypes(p impl.Prog) string {
	var told strings.Builder
	for _, name := range []string{"I", "Main", "Kid", "Bare", "Spare", "spare", "", "n"} {
		fmt.Fprint(&told, impl.TypeOf(p, name))
	}
	list := append(rightTypes(len(p.Kinds)), refType(-1), refType(len(p.Kinds)), refType(len(p.Kinds)+1), impl.Type{Kind: -1}, impl.Type{Kind: 4}, impl.Type{Kind: impl.KdNull, Class: 1})
	for _, a := range list {
		fmt.Fprint(&told, impl.TypeOk(p, a))
		for _, b := range list {
			fmt.Fprint(&told, impl.Fits(p, a, b), impl.Join(p, a, b))
		}
	}
	return told.String()
}

func progsForTypes(t *testing.T) []impl.Prog {
	list := []impl.Prog{progOf(t, familyText), progOf(t, mainText), {}}
	return slices.Concat(list, twistedProgs(), listTurns(list[0]))
}

// P33: neither the classes, nor their lists, nor the spare room behind them are written; what stands there does not count.
func TestTypesWriteNothing(t *testing.T) { wantUnwritten(t, progsForTypes(t), tellTypes) }

func TestTypesKeepNothing(t *testing.T) { wantToldAgain(t, progsForTypes(t), tellTypes) }
