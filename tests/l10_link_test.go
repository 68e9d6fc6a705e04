package tests

import (
	"fmt"
	"math"
	"slices"
	"strconv"
	"strings"
	"sync"
	"testing"

	"loop.example/g00283/impl"
)

// A linkBook links classes without the program: what a class has is gathered along its line, from the highest class above it down to itself.
type linkBook []impl.Class

// ahead is the number of a class among those ahead of place i, or -1.
func (x linkBook) ahead(name string, i int) int {
	return slices.IndexFunc(x[:i], func(c impl.Class) bool { return c.Name == name })
}

func (x linkBook) super(i int) int {
	if x[i].Super == "" {
		return -1
	}
	return x.ahead(x[i].Super, i)
}

func (x linkBook) line(i int) []int {
	var line []int
	for ; i >= 0; i = x.super(i) {
		line = append([]int{i}, line...)
	}
	return line
}

func (x linkBook) fields(i int) []impl.Field {
	var list []impl.Field
	for _, a := range x.line(i) {
		list = append(list, x[a].Fields...)
	}
	return list
}

func codeAt(list []impl.Code, name string) int {
	return slices.IndexFunc(list, func(m impl.Code) bool { return m.Name == name })
}

func fieldAt(list []impl.Field, name string) int {
	return slices.IndexFunc(list, func(f impl.Field) bool { return f.Name == name })
}

func (x linkBook) methods(i int) []impl.Code {
	var list []impl.Code
	for _, a := range x.line(i) {
		for _, m := range x[a].Methods {
			places, _ := codeThere(m.Code)
			own := impl.Code{Name: m.Name, Owner: a, Params: slices.Clone(m.Params), Result: m.Result, Locals: m.Locals, List: places}
			if at := codeAt(list, m.Name); at >= 0 {
				list[at] = own
			} else {
				list = append(list, own)
			}
		}
	}
	return list
}

// The reasons of the codes, each over the whole list; those of a later code want those of the earlier ones not to hold.
func (x linkBook) bad() bool {
	if len(x) < 1 || len(x) > 6 {
		return true
	}
	for _, c := range x {
		if !impl.ClassOk(c) {
			return true
		}
		for _, m := range c.Methods {
			if _, ok := codeThere(m.Code); !ok {
				return true
			}
		}
	}
	return false
}

func (x linkBook) twice() bool {
	for i, c := range x {
		if x.ahead(c.Name, i) >= 0 {
			return true
		}
	}
	return false
}

func (x linkBook) noSuper() bool {
	for i, c := range x {
		if c.Super != "" && x.ahead(c.Super, i) < 0 {
			return true
		}
	}
	return false
}

func (x linkBook) wrongFields() bool {
	for i := range x {
		names := map[string]int{}
		for _, f := range x.fields(i) {
			names[f.Name]++
		}
		if len(x.fields(i)) > 8 || len(names) < len(x.fields(i)) {
			return true
		}
	}
	return false
}

func (x linkBook) wrongMethods() bool {
	for i, c := range x {
		if len(x.methods(i)) > 6 {
			return true
		}
		above := x.super(i)
		if above < 0 {
			continue
		}
		for _, m := range c.Methods {
			at := codeAt(x.methods(above), m.Name)
			if at < 0 {
				continue
			}
			if was := x.methods(above)[at]; !slices.Equal(was.Params, m.Params) || was.Result != m.Result {
				return true
			}
		}
	}
	return false
}

func (x linkBook) wrongTypes() bool {
	for _, c := range x {
		var types []string
		for _, f := range c.Fields {
			types = append(types, f.Type)
		}
		for _, m := range c.Methods {
			types = append(append(types, m.Result), m.Params...)
		}
		for _, s := range types {
			if s != "I" && x.ahead(s, len(x)) < 0 {
				return true
			}
		}
	}
	return false
}

func (x linkBook) wrongPools() bool {
	for _, c := range x {
		for _, k := range c.Pool {
			if k.Kind == impl.PlInt {
				continue
			}
			at := x.ahead(k.A, len(x))
			if at < 0 || k.Kind == impl.PlField && fieldAt(x.fields(at), k.B) < 0 || k.Kind == impl.PlCall && codeAt(x.methods(at), k.B) < 0 {
				return true
			}
		}
	}
	return false
}

func (x linkBook) noMain() bool {
	for _, m := range x[0].Methods {
		if m.Name == "run" && len(m.Params) == 0 && m.Result == "I" {
			return x[0].Name != "Main"
		}
	}
	return true
}

// linkThere is what Link has to answer.
func linkThere(list []impl.Class) (impl.Prog, int) {
	x := linkBook(list)
	for i, holds := range []func() bool{x.bad, x.twice, x.noSuper, x.wrongFields, x.wrongMethods, x.wrongTypes, x.wrongPools, x.noMain} {
		if holds() {
			return impl.Prog{}, i + 1
		}
	}
	var p impl.Prog
	for i, c := range x {
		p.Kinds = append(p.Kinds, impl.Kind{Name: c.Name, Super: x.super(i), Pool: slices.Clone(c.Pool), Fields: x.fields(i), Methods: x.methods(i)})
	}
	return p, 0
}

func sameCodes(a, b impl.Code) bool {
	return a.Name == b.Name && a.Owner == b.Owner && slices.Equal(a.Params, b.Params) && a.Result == b.Result && a.Locals == b.Locals && slices.Equal(a.List, b.List)
}

func sameKind(a, b impl.Kind) bool {
	return a.Name == b.Name && a.Super == b.Super && slices.Equal(a.Pool, b.Pool) && slices.Equal(a.Fields, b.Fields) && slices.EqualFunc(a.Methods, b.Methods, sameCodes)
}

func sameProg(a, b impl.Prog) bool { return slices.EqualFunc(a.Kinds, b.Kinds, sameKind) }

func cloneKind(k impl.Kind) impl.Kind {
	k.Pool, k.Fields, k.Methods = slices.Clone(k.Pool), slices.Clone(k.Fields), slices.Clone(k.Methods)
	for i, m := range k.Methods {
		k.Methods[i].Params, k.Methods[i].List = slices.Clone(m.Params), slices.Clone(m.List)
	}
	return k
}

func cloneProg(p impl.Prog) impl.Prog {
	p.Kinds = slices.Clone(p.Kinds)
	for i, k := range p.Kinds {
		p.Kinds[i] = cloneKind(k)
	}
	return p
}

func cloneSet(list []impl.Class) []impl.Class {
	list = slices.Clone(list)
	for i, c := range list {
		list[i] = cloneClass(c)
	}
	return list
}

// A progBook asks for a program without the program.
type progBook impl.Prog

func (x progBook) number(name string) int {
	return slices.IndexFunc(x.Kinds, func(k impl.Kind) bool { return k.Name == name })
}

func (x progBook) typeRight(s string) bool {
	return s == "I" || isName(s) && x.number(s) >= 0
}

func (x progBook) namesRight() bool {
	for i, k := range x.Kinds {
		if !isName(k.Name) || k.Name == "I" || x.number(k.Name) != i || k.Super < -1 || k.Super >= i {
			return false
		}
	}
	return true
}

func (x progBook) poolRight(pool []impl.Const) bool {
	for i, k := range pool {
		if !impl.ConstOk(k) || slices.Contains(pool[:i], k) {
			return false
		}
		if k.Kind == impl.PlInt {
			continue
		}
		at := x.number(k.A)
		if at < 0 || k.Kind == impl.PlField && fieldAt(x.Kinds[at].Fields, k.B) < 0 || k.Kind == impl.PlCall && codeAt(x.Kinds[at].Methods, k.B) < 0 {
			return false
		}
	}
	return len(pool) <= 24
}

func (x progBook) fieldsRight(k impl.Kind) bool {
	for i, f := range k.Fields {
		if !x.typeRight(f.Type) || fieldAt(k.Fields, f.Name) != i {
			return false
		}
	}
	if k.Super >= 0 {
		for i, f := range x.Kinds[k.Super].Fields {
			if i >= len(k.Fields) || k.Fields[i] != f {
				return false
			}
		}
	}
	return len(k.Fields) <= 8
}

// ownerRight wants supers ahead of their classes.
func (x progBook) ownerRight(i int, m impl.Code) bool {
	if m.Owner == i {
		return true
	}
	for above := x.Kinds[i].Super; above >= 0; above = x.Kinds[above].Super {
		if above == m.Owner {
			list := x.Kinds[above].Methods
			at := codeAt(list, m.Name)
			return at >= 0 && sameCodes(list[at], m)
		}
	}
	return false
}

func (x progBook) methodRight(i int, m impl.Code) bool {
	if len(m.Params) > 3 || m.Locals < len(m.Params)+1 || m.Locals > 6 || !codeRight(m.List) || !x.typeRight(m.Result) || !x.ownerRight(i, m) {
		return false
	}
	for _, s := range m.Params {
		if !x.typeRight(s) {
			return false
		}
	}
	return true
}

func (x progBook) methodsRight(i int) bool {
	k := x.Kinds[i]
	for at, m := range k.Methods {
		if !x.methodRight(i, m) || codeAt(k.Methods, m.Name) != at {
			return false
		}
	}
	if k.Super >= 0 {
		for at, m := range x.Kinds[k.Super].Methods {
			if at >= len(k.Methods) || k.Methods[at].Name != m.Name || !slices.Equal(k.Methods[at].Params, m.Params) || k.Methods[at].Result != m.Result {
				return false
			}
		}
	}
	return len(k.Methods) <= 6
}

// progRight is what ProgOk has to answer.
func progRight(p impl.Prog) bool {
	x := progBook(p)
	if len(x.Kinds) < 1 || len(x.Kinds) > 6 || !x.namesRight() || x.Kinds[0].Name != "Main" {
		return false
	}
	for i, k := range x.Kinds {
		if !x.poolRight(k.Pool) || !x.fieldsRight(k) || !x.methodsRight(i) {
			return false
		}
	}
	at := codeAt(x.Kinds[0].Methods, "run")
	return at >= 0 && len(x.Kinds[0].Methods[at].Params) == 0 && x.Kinds[0].Methods[at].Result == "I"
}

// wantInherited asks for P10: each class has what its super has, at the same place.
func wantInherited(t *testing.T, p impl.Prog) {
	t.Helper()
	for i, k := range p.Kinds {
		if k.Super < 0 {
			continue
		}
		above := p.Kinds[k.Super]
		for at, f := range above.Fields {
			if impl.FieldOf(p, i, f.Name) != at || k.Fields[at] != f {
				t.Fatalf("the field %s of %s is not at its place in %+v", f.Name, above.Name, k)
			}
		}
		for at, m := range above.Methods {
			own := k.Methods[at]
			if impl.MethodOf(p, i, m.Name) != at || !slices.Equal(own.Params, m.Params) || own.Result != m.Result {
				t.Fatalf("the method %s of %s is not at its place in %+v", m.Name, above.Name, k)
			}
		}
	}
}

// wantOwners: what is not a class' own is its super's, whole.
func wantOwners(t *testing.T, p impl.Prog) {
	t.Helper()
	for i, k := range p.Kinds {
		for at, m := range k.Methods {
			if m.Owner != i && !sameCodes(m, p.Kinds[k.Super].Methods[at]) {
				t.Fatalf("the method %s of %s is neither its own nor its super's", m.Name, k.Name)
			}
		}
	}
}

// wantLink holds Link against the test's own, and tells the code.
func wantLink(t *testing.T, list []impl.Class) int {
	t.Helper()
	want, code := linkThere(list)
	got, how := impl.Link(list)
	if how != code || !sameProg(got, want) {
		t.Fatalf("Link(%+v) = %+v, %d; want %+v, %d", list, got, how, want, code)
	}
	if how != impl.LnDone {
		return how
	}
	if !impl.ProgOk(got) || !progRight(got) {
		t.Fatalf("ProgOk(%+v) is false", got)
	}
	wantInherited(t, got)
	wantOwners(t, got)
	return how
}

func wantLinkCode(t *testing.T, code int, list ...impl.Class) {
	t.Helper()
	if how := wantLink(t, list); how != code {
		t.Fatalf("%+v: a test asks for %d, and it is %d", list, code, how)
	}
}

func setOf(t *testing.T, text string) []impl.Class {
	t.Helper()
	list, ok := setThere(text)
	if !ok {
		t.Fatalf("%q is no set", text)
	}
	return list
}

func wantTextCode(t *testing.T, code int, text string) {
	t.Helper()
	wantLinkCode(t, code, setOf(t, text)...)
}

func progOf(t *testing.T, text string) impl.Prog {
	t.Helper()
	list := setOf(t, text)
	wantLinkCode(t, impl.LnDone, list...)
	p, _ := impl.Link(list)
	return p
}

const mainText = "class Main\nmethod run I 1\npush 0\nreturn\n"

func mainClass() impl.Class {
	return impl.Class{Name: "Main", Methods: []impl.Method{method("run", 1, "\x01\x80\x13", "I")}}
}

// withMain puts a class that runs ahead of others.
func withMain(list ...impl.Class) []impl.Class { return append([]impl.Class{mainClass()}, list...) }

// familyText: a class, two below it, one below one of these, and two that are no kin; with each kind of const.
const familyText = "class Main\nfield n I\nfield next Kid\n" +
	"method run I 2\nnew Far\ncall Main.get\nprint\nconst -70000\nreturn\n" +
	"method get I 1\nload 0\nget Main.n\nreturn\n" +
	"method put Main 4 I Kid\nload 0\nload 1\nput Main.n\nload 0\nreturn\n" +
	"class Kid Main\nfield far Far\n" +
	"method own I 1\nload 0\ncall Far.get\nreturn\n" +
	"method get I 6\nload 0\nget Far.n\nconst 7\nadd\nreturn\n" +
	"class Far Kid\nfield last Far\n" +
	"method put Main 4 I Kid\nnull\nreturn\n" +
	"method tell Far 1\nload 0\nload 0\nget Kid.far\nput Far.last\nload 0\nreturn\n" +
	"method get I 2\nnew Lone\ncall Lone.run\nreturn\n" +
	"class Twin Main\nfield far I\nmethod own Twin 4 Lone I I\nload 0\nreturn\n" +
	"class Lone\nfield n Lone\nmethod run Lone 1\nload 0\nreturn\nmethod next I 1\npush 1\nreturn\n" +
	"class Bare\n"

func TestLinkConstants(t *testing.T) {
	for i, code := range []int{impl.LnDone, impl.LnBad, impl.LnTwice, impl.LnSuper, impl.LnField, impl.LnMethod, impl.LnType, impl.LnPool, impl.LnMain} {
		if code != i {
			t.Errorf("code %d is %d", i, code)
		}
	}
}

func TestLinkOfOneClass(t *testing.T) {
	got := progOf(t, "class Main\nfield n I\nfield m Main\nmethod run I 3\npush 5\nprint\nconst 300\nreturn\nmethod f Main 2 I\nnew Main\ngoto 0\n")
	want := impl.Prog{Kinds: []impl.Kind{{
		Name: "Main", Super: -1,
		Pool:   []impl.Const{intConst(300), classConst("Main")},
		Fields: []impl.Field{{Name: "n", Type: "I"}, {Name: "m", Type: "Main"}},
		Methods: []impl.Code{
			{Name: "run", Result: "I", Locals: 3, List: []impl.Ins{push(5), bare(impl.OpPrint), ins(impl.OpConst, 0), ret()}},
			{Name: "f", Params: []string{"I"}, Result: "Main", Locals: 2, List: []impl.Ins{ins(impl.OpNew, 1), jump(0)}},
		},
	}}}
	if !sameProg(got, want) {
		t.Errorf("%+v, want %+v", got, want)
	}
}

func TestLinkOfAFamily(t *testing.T) {
	p := progOf(t, familyText)
	for i, want := range []struct {
		name          string
		super         int
		fields, codes string
	}{
		{"Main", -1, "[{n I} {next Kid}]", "run.0.2 get.0.1 put.0.4 "},
		{"Kid", 0, "[{n I} {next Kid} {far Far}]", "run.0.2 get.1.6 put.0.4 own.1.1 "},
		{"Far", 1, "[{n I} {next Kid} {far Far} {last Far}]", "run.0.2 get.2.2 put.2.4 own.1.1 tell.2.1 "},
		{"Twin", 0, "[{n I} {next Kid} {far I}]", "run.0.2 get.0.1 put.0.4 own.3.4 "},
		{"Lone", -1, "[{n Lone}]", "run.4.1 next.4.1 "},
		{"Bare", -1, "[]", ""},
	} {
		k := p.Kinds[i]
		codes := ""
		for _, m := range k.Methods {
			codes += fmt.Sprintf("%s.%d.%d ", m.Name, m.Owner, m.Locals)
		}
		if k.Name != want.name || k.Super != want.super || fmt.Sprint(k.Fields) != want.fields || codes != want.codes {
			t.Errorf("class %d is %+v, want %+v", i, k, want)
		}
	}
	// A pool is a class' own: nothing of its super's is in it.
	if !slices.Equal(p.Kinds[1].Pool, []impl.Const{callConst("Far", "get"), fieldConst("Far", "n"), intConst(7)}) || len(p.Kinds[3].Pool) != 0 {
		t.Errorf("pools %v and %v", p.Kinds[1].Pool, p.Kinds[3].Pool)
	}
	if far := p.Kinds[2]; !sameCodes(far.Methods[3], p.Kinds[1].Methods[3]) || !slices.Equal(far.Methods[2].List, []impl.Ins{bare(impl.OpNull), ret()}) || !slices.Equal(far.Methods[2].Params, []string{"I", "Kid"}) {
		t.Errorf("methods %+v", far.Methods)
	}
}

// Of a long line each class has a field, a method of its own, and one in place of the one above it.
func TestLinkOfALongLine(t *testing.T) {
	text, name := "", "Main"
	for i := range impl.MaxClasses {
		text += "class " + name
		if i > 0 {
			text += " " + []string{"Main", "B", "C", "D", "E"}[i-1]
		}
		text += "\nfield f" + someLetters[i:i+1] + " I\nmethod run I " + strconv.Itoa(i+1) + "\npush " + strconv.Itoa(i) + "\nreturn\n"
		if i > 0 {
			text += "method m" + someLetters[i:i+1] + " I 1\nreturn\n"
		}
		name = []string{"B", "C", "D", "E", "F", ""}[i]
	}
	p := progOf(t, text)
	for i, k := range p.Kinds {
		if k.Super != i-1 || len(k.Fields) != i+1 || len(k.Methods) != i+1 || k.Methods[0].Owner != i || k.Methods[0].Locals != i+1 || k.Methods[0].List[0] != push(i) {
			t.Fatalf("class %d is %+v", i, k)
		}
		for at := 1; at <= i; at++ {
			if k.Methods[at].Owner != at || k.Fields[at].Name != "f"+someLetters[at:at+1] {
				t.Fatalf("class %d is %+v", i, k)
			}
		}
	}
}

func TestLinkHowManyClasses(t *testing.T) {
	wantLinkCode(t, impl.LnBad)
	wantLinkCode(t, impl.LnBad, []impl.Class{}...)
	for n := 1; n < 3*impl.MaxClasses; n++ {
		apart, below := withMain(), withMain()
		for i := range n - 1 {
			apart = append(apart, impl.Class{Name: "C" + someLetters[i:i+1]})
			below = append(below, impl.Class{Name: "C" + someLetters[i:i+1], Super: below[i].Name})
		}
		code, alike := impl.LnDone, impl.LnTwice
		if n > impl.MaxClasses {
			code, alike = impl.LnBad, impl.LnBad
		}
		wantLinkCode(t, code, apart...)
		wantLinkCode(t, code, below...)
		if n > 1 {
			wantLinkCode(t, alike, slices.Repeat(withMain(), n)...)
		}
	}
	list := withMain()
	for range 1 << 16 {
		list = append(list, impl.Class{})
	}
	wantLinkCode(t, impl.LnBad, list...)
}

// namedFields: n fields, whose names begin with that letter.
func namedFields(letter string, n int) []impl.Field {
	list := manyFields(n)
	for i := range list {
		list[i] = impl.Field{Name: letter + list[i].Name, Type: "I"}
	}
	return list
}

func namedMethods(letter string, n int) []impl.Method {
	var list []impl.Method
	for i := range n {
		list = append(list, method(letter+someLetters[i:i+1], 1, "\x13", "I"))
	}
	return list
}

// A class with a fields, one below it with b more, one below that with c more; a class that is no kin has as many as there can be.
func TestLinkHowManyFields(t *testing.T) {
	for a := range impl.MaxFields + 1 {
		for b := range impl.MaxFields + 1 {
			for c := range impl.MaxFields + 1 {
				list := withMain(
					impl.Class{Name: "A", Fields: namedFields("a", a)}, impl.Class{Name: "B", Super: "A", Fields: namedFields("b", b)},
					impl.Class{Name: "C", Super: "B", Fields: namedFields("c", c)}, impl.Class{Name: "D", Fields: namedFields("a", impl.MaxFields)},
				)
				code := impl.LnDone
				if a+b+c > impl.MaxFields {
					code = impl.LnField
				}
				wantLinkCode(t, code, list...)
			}
		}
	}
}

// Likewise with methods; those in place of others do not count.
func TestLinkHowManyMethods(t *testing.T) {
	for a := range impl.MaxMethods + 1 {
		for b := range impl.MaxMethods + 1 {
			for again := range min(a, impl.MaxMethods-b) + 1 {
				for c := range 3 {
					list := withMain(
						impl.Class{Name: "A", Methods: namedMethods("a", a)}, impl.Class{Name: "B", Super: "A", Methods: append(namedMethods("b", b), namedMethods("a", again)...)},
						impl.Class{Name: "C", Super: "B", Methods: append(namedMethods("a", again), namedMethods("c", c)[:min(c, impl.MaxMethods-again)]...)}, impl.Class{Name: "D", Methods: namedMethods("a", impl.MaxMethods)},
					)
					code := impl.LnDone
					if a+b+min(c, impl.MaxMethods-again) > impl.MaxMethods {
						code = impl.LnMethod
					}
					wantLinkCode(t, code, list...)
				}
			}
		}
	}
}

func TestLinkSupers(t *testing.T) {
	for i, code := range map[string]int{
		"": impl.LnDone, "Main": impl.LnDone, "A": impl.LnDone, "B": impl.LnSuper, "C": impl.LnSuper, "None": impl.LnSuper, "main": impl.LnSuper, "Mai": impl.LnSuper, "a": impl.LnSuper, "I": impl.LnBad,
	} {
		wantLinkCode(t, code, withMain(impl.Class{Name: "A"}, impl.Class{Name: "B", Super: i}, impl.Class{Name: "C"})...)
	}
	// The first class has no Names ahead of it.
	for _, super := range []string{"Main", "A", "B"} {
		list := withMain(impl.Class{Name: "A"})
		list[0].Super = super
		wantLinkCode(t, impl.LnSuper, list...)
	}
	wantTextCode(t, impl.LnSuper, mainText+"class A B\nclass B A\n")
	wantTextCode(t, impl.LnSuper, mainText+"class A B\nclass B Main\n")
	wantTextCode(t, impl.LnDone, mainText+"class B Main\nclass A B\n")
}

func TestLinkNamesThatAreTwice(t *testing.T) {
	names := []string{"Main", "A", "B", "C", "D", "E"}
	for i := range names {
		for k := range i {
			list := withMain()
			for _, name := range names[1:] {
				list = append(list, impl.Class{Name: name})
			}
			wantLinkCode(t, impl.LnDone, list...)
			list[i].Name = names[k]
			wantLinkCode(t, impl.LnTwice, list...)
			// Alike in all.
			list[i] = cloneClass(list[k])
			wantLinkCode(t, impl.LnTwice, list...)
			list[i].Super = names[0]
			wantLinkCode(t, impl.LnTwice, list...)
		}
	}
	wantTextCode(t, impl.LnDone, mainText+"class main\nclass MAIN\nclass Maim\n")
}

func TestLinkFieldsOfOneName(t *testing.T) {
	for _, same := range []string{"I", "A"} {
		field := "field x " + same + "\n"
		wantTextCode(t, impl.LnField, mainText+"class A\nfield x I\nclass B A\n"+field)
		wantTextCode(t, impl.LnField, mainText+"class A\nfield y I\nfield x I\nclass B A\nclass C B\nfield z I\n"+field)
		wantTextCode(t, impl.LnField, mainText+"class A\nclass B A\nfield x I\nclass C\nclass D B\n"+field)
		// Not of its kin, of another letter, and a method of that Name.
		wantTextCode(t, impl.LnDone, mainText+"class A\nfield x I\nclass B\n"+field)
		wantTextCode(t, impl.LnDone, mainText+"class A\nclass B A\nfield x I\nclass C A\n"+field)
		wantTextCode(t, impl.LnDone, mainText+"class A\nfield X I\nfield xx I\nclass B A\n"+field)
		wantTextCode(t, impl.LnDone, mainText+"class A\nmethod x I 1\nreturn\nclass B A\n"+field)
	}
}

// One of its own in place of one above it: Locals and code may be others.
func TestLinkMethodsOfOneName(t *testing.T) {
	above := mainText + "class A\nmethod f I 3 I A\nreturn\nmethod g A 1\nreturn\n"
	for _, between := range []string{"class B A\n", "class B A\nmethod h I 1\nreturn\n", "class B A\nmethod f I 4 I A\ngoto 0\n"} {
		for line, code := range map[string]int{
			"f I 3 I A": impl.LnDone, "f I 6 I A": impl.LnDone, "f A 3 I A": impl.LnMethod, "f B 3 I A": impl.LnMethod, "f C 3 I A": impl.LnMethod, "f Q 3 I A": impl.LnMethod,
			"f I 3 A I": impl.LnMethod, "f I 3 I": impl.LnMethod, "f I 3": impl.LnMethod, "f I 4 I A I": impl.LnMethod, "f I 3 I B": impl.LnMethod, "f I 3 I C": impl.LnMethod, "f I 3 A A": impl.LnMethod, "f I 3 I I": impl.LnMethod,
			"g A 1": impl.LnDone, "g A 2": impl.LnDone, "g I 1": impl.LnMethod, "g B 1": impl.LnMethod, "g C 1": impl.LnMethod, "g A 2 I": impl.LnMethod,
			"F A 2 C": impl.LnDone, "ff I 1": impl.LnDone, "k I 2 B": impl.LnDone, "k I 2 Q": impl.LnType,
		} {
			wantTextCode(t, code, above+between+"class C B\nmethod "+line+"\npush 1\nreturn\n")
			wantTextCode(t, code, above+between+"class C B\nmethod z I 1\nreturn\nmethod "+line+"\npush 1\nreturn\n")
		}
		// Of one that is no kin it counts for nothing.
		wantTextCode(t, impl.LnDone, above+between+"class C\nmethod f C 2 C\nreturn\nmethod g I 1\nreturn\n")
	}
	// Not at once above it, and of the one above that.
	wantTextCode(t, impl.LnMethod, mainText+"class A Main\nclass B A\nmethod run B 1\nreturn\n")
	wantTextCode(t, impl.LnDone, mainText+"class A Main\nclass B A\nmethod run I 6\nreturn\n")
	wantTextCode(t, impl.LnMethod, mainText+"class A Main\nmethod run I 2\nreturn\nclass B A\nmethod run I 2 I\nreturn\n")
}

// typePlaces: classes with a type at each place at which one may stand.
func typePlaces(s string) []impl.Class {
	return []impl.Class{
		{Name: "B", Fields: []impl.Field{{Name: "x", Type: s}}}, {Name: "B", Fields: []impl.Field{{Name: "y", Type: "I"}, {Name: "x", Type: s}}},
		{Name: "B", Methods: []impl.Method{method("f", 1, "\x13", s)}}, {Name: "B", Methods: []impl.Method{method("f", 1, "\x13", "I"), method("g", 1, "\x13", s)}},
		{Name: "B", Methods: []impl.Method{method("f", 4, "\x13", "I", s)}}, {Name: "B", Methods: []impl.Method{method("f", 4, "\x13", "I", "I", s)}},
		{Name: "B", Methods: []impl.Method{method("f", 4, "\x13", "I", "I", "A", s)}}, {Name: "B", Super: "A", Methods: []impl.Method{method("h", 6, "\x13", "B", s, "I", "I")}},
	}
}

func TestLinkTypes(t *testing.T) {
	for s, code := range map[string]int{
		"I": impl.LnDone, "Main": impl.LnDone, "A": impl.LnDone, "B": impl.LnDone, "C": impl.LnDone,
		"None": impl.LnType, "i": impl.LnType, "II": impl.LnType, "a": impl.LnType, "main": impl.LnType, "run": impl.LnType, "f": impl.LnType, "x": impl.LnType, "AB": impl.LnType, "": impl.LnBad, "a1": impl.LnBad,
	} {
		for _, c := range typePlaces(s) {
			wantLinkCode(t, code, withMain(impl.Class{Name: "A"}, c, impl.Class{Name: "C"})...)
			wantLinkCode(t, code, withMain(impl.Class{Name: "A"}, c, impl.Class{Name: "C"}, impl.Class{Name: "D", Super: "B"})...)
		}
		list := withMain(impl.Class{Name: "A"}, impl.Class{Name: "B"}, impl.Class{Name: "C"})
		list[0].Fields = []impl.Field{{Name: "n", Type: s}}
		wantLinkCode(t, code, list...)
	}
}

func TestLinkPools(t *testing.T) {
	above := "class Main\nfield n I\nmethod run I 1\nreturn\nclass A Main\nfield a I\nmethod f I 1\nreturn\n"
	list := setOf(t, above+"class B A\nfield b I\nmethod g I 1\nreturn\nclass C\nfield run I\nmethod n I 1\nreturn\n")
	has := map[string]string{
		"Main": " field n call run ", "A": " field n field a call run call f ", "B": " field n field a field b call run call f call g ", "C": " field run call n ",
	}
	for i := range list {
		want := func(k impl.Const, is bool) {
			t.Helper()
			set := cloneSet(list)
			code := impl.LnPool
			if is {
				code = impl.LnDone
			}
			set[i].Pool = []impl.Const{k}
			wantLinkCode(t, code, set...)
			set[i].Pool = []impl.Const{intConst(77), classConst("A"), k, fieldConst("B", "n")}
			if k != classConst("A") && k != fieldConst("B", "n") {
				wantLinkCode(t, code, set...)
			}
		}
		for _, n := range []int{leastWord, -1, 0, 1, 5, greatestWord} {
			want(intConst(n), true)
		}
		for _, a := range []string{"Main", "A", "B", "C", "None", "I", "a", "main", "n", "run"} {
			members, is := has[a]
			want(classConst(a), is)
			for _, b := range []string{"n", "a", "b", "run", "f", "g", "None", "A", "N", "I"} {
				want(fieldConst(a, b), strings.Contains(members, " field "+b+" "))
				want(callConst(a, b), strings.Contains(members, " call "+b+" "))
			}
		}
	}
	// What no code refers to counts, too; and a full pool is gone through to its end.
	full := slices.Clone(list)
	for n := range impl.MaxPool - 1 {
		full[3].Pool = append(full[3].Pool, intConst(n))
	}
	full[3].Pool = append(full[3].Pool, callConst("B", "run"))
	wantLinkCode(t, impl.LnDone, full...)
	full[3].Pool[impl.MaxPool-1] = callConst("C", "run")
	wantLinkCode(t, impl.LnPool, full...)
}

func TestLinkMain(t *testing.T) {
	for text, code := range map[string]int{
		mainText: impl.LnDone, "class Main\nmethod run I 6\ngoto 0\n": impl.LnDone, "class Main\nmethod f I 1\nreturn\nmethod run I 1\nreturn\n": impl.LnDone,
		"class Main\n": impl.LnMain, "class A\n": impl.LnMain, "class main\nmethod run I 1\nreturn\n": impl.LnMain, "class Mains\nmethod run I 1\nreturn\n": impl.LnMain,
		"class Main\nmethod Run I 1\nreturn\n": impl.LnMain, "class Main\nmethod runs I 1\nreturn\n": impl.LnMain, "class Main\nfield run I\n": impl.LnMain, "class Main\nmethod f I 1\nreturn\n": impl.LnMain,
		"class Main\nmethod run Main 1\nreturn\n": impl.LnMain, "class Main\nmethod run I 2 I\nreturn\n": impl.LnMain, "class Main\nmethod run I 4 Main I I\nreturn\n": impl.LnMain, "class Main\nmethod run Main 2 I\nreturn\n": impl.LnMain,
	} {
		wantTextCode(t, code, text)
		wantTextCode(t, code, text+"class B\nmethod run I 1\nreturn\n")
		wantTextCode(t, code, text+"class B\nfield n B\nmethod run B 2 B\nreturn\n")
	}
	// Main at another place, with a run of its own and with one from above.
	wantTextCode(t, impl.LnMain, "class A\n"+mainText)
	wantTextCode(t, impl.LnMain, "class A\nmethod run I 1\nreturn\n"+mainText)
	wantTextCode(t, impl.LnMain, "class A\nmethod run I 1\nreturn\nclass Main A\n")
	wantTextCode(t, impl.LnSuper, "class Main A\nclass A\nmethod run I 1\nreturn\n")
}

// badClasses: what is no class, and what has code that is none.
func badClasses() []impl.Class {
	list := []impl.Class{
		{}, {Name: "I"}, {Name: "a1"}, {Name: longestName + "x"}, {Name: "Bad", Super: "I"}, {Name: "Bad", Pool: []impl.Const{{}}}, {Name: "Bad", Pool: []impl.Const{intConst(1), intConst(1)}}, {Name: "Bad", Pool: manyConsts(impl.MaxPool + 1)},
		{Name: "Bad", Fields: namedFields("a", impl.MaxFields+1)}, {Name: "Bad", Fields: []impl.Field{{Name: "x", Type: "I"}, {Name: "x", Type: "I"}}}, {Name: "Bad", Fields: []impl.Field{{Name: "x"}}}, {Name: "Bad", Methods: namedMethods("a", impl.MaxMethods+1)},
		{Name: "Bad", Methods: append(namedMethods("a", 1), namedMethods("a", 1)...)}, {Name: "Bad", Methods: []impl.Method{method("f", 0, "\x13", "I")}}, {Name: "Bad", Methods: []impl.Method{method("f", 7, "\x13", "I")}}, {Name: "Bad", Methods: []impl.Method{method("f", 1, "\x13", "I", "I")}},
	}
	for _, code := range []string{"", "\x00", "\x01", "\x05", "\x19", "\x13\x05", "\x0e\x01", "\x0e\x02", "\x03\x06\x13", "\x02\x18\x13", "\x0d\x01\x13", "return", strings.Repeat("\x13", impl.MaxCode+1)} {
		list = append(list,
			impl.Class{Name: "Bad", Methods: []impl.Method{method("f", 1, code, "I")}},
			impl.Class{Name: "Bad", Methods: []impl.Method{method("f", 1, "\x13", "I"), method("g", 1, "\x0e\x00", "I"), method("h", 6, code, "I")}},
		)
	}
	return list
}

func TestLinkOfWhatIsNoClass(t *testing.T) {
	for _, bad := range badClasses() {
		wantLinkCode(t, impl.LnBad, bad)
		for n := 1; n <= impl.MaxClasses; n++ {
			for at := range n {
				list := withMain()
				for i := range n - 1 {
					list = append(list, impl.Class{Name: "C" + someLetters[i:i+1]})
				}
				list[at] = bad
				wantLinkCode(t, impl.LnBad, list...)
			}
		}
	}
	// Whatever two bytes stand there: of code Link asks just what Decode does.
	linked := 0
	for x := range 256 * 256 {
		code := []byte{byte(x), byte(x / 256), 19}
		_, ok := codeThere(code)
		_, how := impl.Link(withMain(impl.Class{Name: "A", Methods: []impl.Method{method("f", 2, string(code), "I")}}))
		if ok != (how == impl.LnDone) || !ok && how != impl.LnBad {
			t.Fatalf("code %q: %d", code, how)
		}
		if ok {
			linked++
		}
	}
	if linked < 400 {
		t.Errorf("%d linked", linked)
	}
}

// A linkFault is a reason of a code that holds behind a Main that is right; of LnMain it is what stands in its place.
type linkFault struct {
	code int
	list []impl.Class
}

// linkFaults: reasons of all codes; no two classes of two codes have one Name.
func linkFaults() []linkFault {
	field := func(name, of string) []impl.Field { return []impl.Field{{Name: name, Type: of}} }
	one := func(m impl.Method) []impl.Method { return []impl.Method{m} }
	return []linkFault{
		{impl.LnBad, []impl.Class{{Name: "I"}}},
		{impl.LnBad, []impl.Class{{Name: "Bad", Methods: one(method("f", 1, "\x05", "I"))}}},
		{impl.LnBad, []impl.Class{{Name: "Bad", Fields: namedFields("a", impl.MaxFields+1)}}},
		{impl.LnTwice, []impl.Class{{Name: "Two"}, {Name: "Two"}}},
		{impl.LnTwice, []impl.Class{{Name: "Main"}}},
		{impl.LnSuper, []impl.Class{{Name: "Sup", Super: "None"}}},
		{impl.LnSuper, []impl.Class{{Name: "Sup", Super: "Sup"}}},
		{impl.LnSuper, []impl.Class{{Name: "Sup", Super: "Late"}, {Name: "Late"}}},
		{impl.LnField, []impl.Class{{Name: "Fa", Fields: field("x", "I")}, {Name: "Fb", Super: "Fa", Fields: field("x", "I")}}},
		{impl.LnField, []impl.Class{{Name: "Fa", Fields: namedFields("a", 5)}, {Name: "Fb", Super: "Fa", Fields: namedFields("b", 4)}}},
		{impl.LnMethod, []impl.Class{{Name: "Ma", Methods: one(method("f", 2, "\x13", "I", "I"))}, {Name: "Mb", Super: "Ma", Methods: one(method("f", 2, "\x13", "I"))}}},
		{impl.LnMethod, []impl.Class{{Name: "Ma", Methods: one(method("f", 2, "\x13", "I"))}, {Name: "Mb", Super: "Ma", Methods: one(method("f", 2, "\x13", "Ma"))}}},
		{impl.LnMethod, []impl.Class{{Name: "Ma", Methods: namedMethods("a", 4)}, {Name: "Mb", Super: "Ma", Methods: namedMethods("b", 3)}}},
		{impl.LnType, []impl.Class{{Name: "Ty", Fields: field("n", "None")}}},
		{impl.LnType, []impl.Class{{Name: "Ty", Methods: one(method("f", 2, "\x13", "I", "None"))}}},
		{impl.LnType, []impl.Class{{Name: "Ty", Methods: one(method("f", 2, "\x13", "None"))}}},
		{impl.LnPool, []impl.Class{{Name: "Po", Pool: []impl.Const{classConst("None")}}}},
		{impl.LnPool, []impl.Class{{Name: "Po", Pool: []impl.Const{fieldConst("Po", "n")}}}},
		{impl.LnPool, []impl.Class{{Name: "Po", Pool: []impl.Const{callConst("Main", "n")}}}},
		{impl.LnMain, []impl.Class{{Name: "Main"}}},
		{impl.LnMain, []impl.Class{{Name: "Other", Methods: one(method("run", 1, "\x13", "I"))}, {Name: "Main", Methods: one(method("run", 1, "\x13", "I"))}}},
		{impl.LnMain, []impl.Class{{Name: "Main", Methods: one(method("run", 2, "\x13", "I", "I"))}}},
		{impl.LnMain, []impl.Class{{Name: "Main", Methods: one(method("run", 1, "\x13", "Main"))}}},
	}
}

// firstOf is what stands ahead of all else: a Main, or what is in its place.
func (x linkFault) firstOf() []impl.Class {
	if x.code == impl.LnMain {
		return cloneSet(x.list)
	}
	return append(withMain(), cloneSet(x.list)...)
}

// Both reasons in one list, whichever of them stands in the later class: the one that the chapter names first counts.
func TestLinkFirstReason(t *testing.T) {
	faults, pairs := linkFaults(), 0
	for _, first := range faults {
		wantLinkCode(t, first.code, first.firstOf()...)
		for _, other := range faults {
			if first.code >= other.code {
				continue
			}
			wantLinkCode(t, first.code, append(other.firstOf(), cloneSet(first.list)...)...)
			if other.code != impl.LnMain {
				wantLinkCode(t, first.code, append(first.firstOf(), cloneSet(other.list)...)...)
			}
			pairs++
		}
	}
	if pairs != (23*23-3*3-2*2-3*3-2*2-3*3-3*3-3*3-4*4)/2 {
		t.Errorf("%d pairs", pairs)
	}
	// Too many classes count ahead of all.
	for _, x := range faults {
		list := x.firstOf()
		for i := 0; len(list) <= impl.MaxClasses; i++ {
			list = append(list, impl.Class{Name: "C" + someLetters[i:i+1]})
		}
		wantLinkCode(t, impl.LnBad, list...)
	}
}

// All reasons at once, which are mended one behind the other, in the order of the codes.
func TestLinkReasonsMended(t *testing.T) {
	var list []impl.Class
	reset := func() {
		list = []impl.Class{
			{Name: "Main", Fields: []impl.Field{{Name: "n", Type: "Gone"}}, Methods: []impl.Method{method("run", 2, "\x13", "I", "I")}},
			{Name: "Kid", Super: "Mian", Pool: []impl.Const{fieldConst("Main", "m")}, Fields: []impl.Field{{Name: "n", Type: "I"}}, Methods: []impl.Method{method("run", 4, "\x05", "I", "I", "I")}},
			{Name: "Kid"},
		}
	}
	mends := []func(){
		func() { list[1].Methods[0].Code = []byte{19} },
		func() { list[2].Name = "Gun" },
		func() { list[1].Super = "Main" },
		func() { list[1].Fields[0].Name = "o" },
		func() { list[1].Methods[0].Params = []string{"I"} },
		func() { list[0].Fields[0].Type = "Gun" },
		func() { list[1].Pool[0].B = "n" },
		func() { list[0].Methods[0].Params, list[1].Methods[0].Params = nil, nil },
	}
	reset()
	for i, mend := range mends {
		wantLinkCode(t, i+1, list...)
		mend()
	}
	wantLinkCode(t, impl.LnDone, list...)
	// Whichever are mended, the first one that is not counts.
	for some := range 1 << len(mends) {
		reset()
		for i, mend := range mends {
			if some>>i&1 == 1 {
				mend()
			}
		}
		wantLink(t, list)
	}
}

func TestKindOf(t *testing.T) {
	p := progOf(t, familyText)
	for i, k := range p.Kinds {
		if impl.KindOf(p, k.Name) != i {
			t.Errorf("KindOf %s is %d", k.Name, impl.KindOf(p, k.Name))
		}
	}
	for _, name := range []string{"", "I", "main", "MAIN", "Mai", "Mains", "run", "n", "\xff", strings.Repeat("Main", 1000)} {
		if impl.KindOf(p, name) != -1 || impl.KindOf(impl.Prog{}, name) != -1 {
			t.Errorf("KindOf %.20q is %d", name, impl.KindOf(p, name))
		}
	}
	// Of programs that are not right, too.
	wrong := impl.Prog{Kinds: []impl.Kind{{Name: "a1"}, {Name: "I"}, {Name: "B", Super: 9}}}
	for i, name := range []string{"a1", "I", "B"} {
		if impl.KindOf(wrong, name) != i {
			t.Errorf("KindOf %s is %d", name, impl.KindOf(wrong, name))
		}
	}
}

func TestFieldOfAndMethodOf(t *testing.T) {
	p := progOf(t, familyText)
	names := []string{"", "n", "next", "far", "last", "run", "get", "put", "own", "tell", "I", "N", "nn", "Main", "\x00"}
	found := 0
	for _, k := range append(edgeNumbers(), -1, 0, 1, 2, 3, 4, 5, 6, 7) {
		for _, name := range names {
			field, code := -1, -1
			if k >= 0 && k < len(p.Kinds) {
				field, code = fieldAt(p.Kinds[k].Fields, name), codeAt(p.Kinds[k].Methods, name)
			}
			if field >= 0 || code >= 0 {
				found++
			}
			if got := impl.FieldOf(p, k, name); got != field {
				t.Fatalf("FieldOf %d %q is %d, want %d", k, name, got, field)
			}
			if got := impl.MethodOf(p, k, name); got != code {
				t.Fatalf("MethodOf %d %q is %d, want %d", k, name, got, code)
			}
			if impl.FieldOf(impl.Prog{}, k, name) != -1 || impl.MethodOf(impl.Prog{}, k, name) != -1 {
				t.Fatalf("the empty program has %q", name)
			}
		}
	}
	if found != 5+7+9+7+3 {
		t.Errorf("%d found", found)
	}
	// What stands in the spare room behind a list is not in it.
	cut := impl.Prog{Kinds: p.Kinds[:2]}
	cut.Kinds[1].Fields, cut.Kinds[1].Methods = cut.Kinds[1].Fields[:1], cut.Kinds[1].Methods[:1]
	if impl.KindOf(cut, "Far") != -1 || impl.FieldOf(cut, 2, "n") != -1 || impl.FieldOf(cut, 1, "next") != -1 || impl.MethodOf(cut, 1, "get") != -1 || impl.MethodOf(cut, 2, "run") != -1 || impl.Sub(cut, 2, 0) {
		t.Error("the spare room")
	}
}

// subThere goes from a class to its super as often as it may.
func subThere(p impl.Prog, a, b int) bool {
	in := func(k int) bool { return k >= 0 && k < len(p.Kinds) }
	if !in(a) || !in(b) {
		return false
	}
	for range 6 {
		if a == b {
			return true
		}
		if a = p.Kinds[a].Super; !in(a) {
			return false
		}
	}
	return a == b
}

func supersOf(supers ...int) impl.Prog {
	var p impl.Prog
	for _, super := range supers {
		p.Kinds = append(p.Kinds, impl.Kind{Super: super})
	}
	return p
}

func TestSub(t *testing.T) {
	p := progOf(t, familyText)
	for _, x := range []struct {
		a, b int
		want bool
	}{
		{0, 0, true}, {1, 0, true}, {2, 0, true}, {2, 1, true}, {3, 0, true}, {5, 5, true}, {4, 4, true},
		{0, 1, false}, {0, 2, false}, {1, 2, false}, {1, 3, false}, {3, 1, false}, {4, 0, false}, {0, 4, false}, {5, 4, false}, {3, 2, false},
		{-1, -1, false}, {-1, 0, false}, {0, -1, false}, {4, -1, false}, {6, 6, false}, {6, 0, false}, {0, 6, false}, {5, 6, false}, {6, 5, false},
	} {
		if impl.Sub(p, x.a, x.b) != x.want {
			t.Errorf("Sub %d %d is %v", x.a, x.b, !x.want)
		}
	}
	wide := []int{math.MinInt, -7, -2, -1, 0, 1, 2, 3, 4, 5, 6, 7, 8, 9, 256, 1 << 32, math.MaxInt}
	for _, p := range []impl.Prog{
		{}, p, supersOf(-1), supersOf(0), supersOf(5), supersOf(-5), supersOf(1, 0), supersOf(1, 2, 0), supersOf(1, 1, 1), supersOf(1, 2, 3, 4, 5, 0), supersOf(5, 0, 1, 2, 3, 4), supersOf(1, 2, 1, 2),
		supersOf(-1, 0, 1, 2, 3, 4), supersOf(1, 2, 3, 4, 5, 6), supersOf(1, 2, 3, 4, 5, 6, 0), supersOf(1, 2, 3, 4, 5, 6, 7, 0), supersOf(-1, 0, 1, 2, 3, 4, 5, 6, 7), supersOf(math.MaxInt, math.MinInt, 0, 1),
	} {
		for _, a := range wide {
			for _, b := range wide {
				if got := impl.Sub(p, a, b); got != subThere(p, a, b) {
					t.Fatalf("Sub %d %d of %+v is %v", a, b, p, got)
				}
			}
		}
	}
	// In a ring each is Sub of each; of what is too far above, no more.
	ring, line := supersOf(1, 2, 3, 4, 5, 0), supersOf(-1, 0, 1, 2, 3, 4, 5, 6, 7)
	for a := range 6 {
		for b := range 6 {
			if !impl.Sub(ring, a, b) {
				t.Errorf("Sub %d %d of a ring is false", a, b)
			}
		}
	}
	if !impl.Sub(line, 6, 0) || impl.Sub(line, 7, 0) || !impl.Sub(line, 8, 2) || impl.Sub(line, 8, 1) || impl.Sub(supersOf(1, 0, -1), 0, 2) {
		t.Error("steps")
	}
}

func wantProgIf(t *testing.T, right bool, p impl.Prog) {
	t.Helper()
	if progRight(p) != right {
		t.Fatalf("%+v: a test asks for %v", p, right)
	}
	if impl.ProgOk(p) != right {
		t.Fatalf("ProgOk(%+v) is %v", p, !right)
	}
}

// A progTurn turns a program that familyText is; all of it stays right but for what is named.
type progTurn struct {
	what string
	turn func(*impl.Prog)
}

func wantTurns(t *testing.T, right bool, list []progTurn) {
	t.Helper()
	for _, x := range list {
		p := progOf(t, familyText)
		x.turn(&p)
		if progRight(p) != right || impl.ProgOk(p) != right {
			t.Errorf("%s: ProgOk is %v, a test asks for %v", x.what, impl.ProgOk(p), right)
		}
	}
}

// addField puts a field behind those of a class that no other class is below.
func addField(p *impl.Prog, name, of string) {
	p.Kinds[4].Fields = append(p.Kinds[4].Fields, impl.Field{Name: name, Type: of})
}

func addMethod(p *impl.Prog, m impl.Code) { p.Kinds[4].Methods = append(p.Kinds[4].Methods, m) }

func addConst(p *impl.Prog, list ...impl.Const) {
	p.Kinds[5].Pool = append(p.Kinds[5].Pool, list...)
}

func retCode(name string, owner int) impl.Code {
	return impl.Code{Name: name, Owner: owner, Result: "I", Locals: 1, List: []impl.Ins{ret()}}
}

// newName gives a class that no other one refers to another name.
func newName(name string) progTurn {
	return progTurn{"the name " + name, func(p *impl.Prog) { p.Kinds[5].Name = name }}
}

func TestProgOkKinds(t *testing.T) {
	wantProgIf(t, false, impl.Prog{})
	wantProgIf(t, false, impl.Prog{Kinds: []impl.Kind{}})
	wantProgIf(t, false, impl.Prog{Kinds: []impl.Kind{{}}})
	wantProgIf(t, true, progOf(t, mainText))
	wantTurns(t, true, []progTurn{
		{"as it is", func(p *impl.Prog) {}},
		{"one less", func(p *impl.Prog) { p.Kinds = p.Kinds[:5] }},
		newName("a"), newName("II"), newName("main"), newName("run"), newName(longestName), newName("n"),
		{"another super", func(p *impl.Prog) {
			p.Kinds[5].Super = 4
			p.Kinds[5].Fields, p.Kinds[5].Methods = p.Kinds[4].Fields, p.Kinds[4].Methods
		}},
	})
	wantTurns(t, false, []progTurn{
		{"none", func(p *impl.Prog) { p.Kinds = p.Kinds[:0] }},
		{"one more", func(p *impl.Prog) { p.Kinds = append(p.Kinds, impl.Kind{Name: "More", Super: -1}) }},
		newName(""), newName("I"), newName("a1"), newName("a b"), newName("\xff"), newName(longestName + "x"), newName("Main"), newName("Lone"),
		{"a super that is itself", func(p *impl.Prog) { p.Kinds[5].Super = 5 }},
		{"a super behind it", func(p *impl.Prog) { p.Kinds[4].Super = 5; p.Kinds[5].Fields, p.Kinds[5].Methods = nil, nil }},
		{"a super below none", func(p *impl.Prog) { p.Kinds[5].Super = -2 }},
		{"a super that is none", func(p *impl.Prog) { p.Kinds[5].Super = 6 }},
		{"the least super", func(p *impl.Prog) { p.Kinds[5].Super = math.MinInt }},
		{"the greatest super", func(p *impl.Prog) { p.Kinds[5].Super = math.MaxInt }},
		{"a first class that is its own super", func(p *impl.Prog) { p.Kinds[0].Super = 0 }},
		{"a ring", func(p *impl.Prog) { p.Kinds[0].Super = 1 }},
		{"a super without what it has", func(p *impl.Prog) { p.Kinds[5].Super = 4 }},
	})
}

func TestProgOkPools(t *testing.T) {
	var words []impl.Const
	for n := range impl.MaxPool + 1 {
		words = append(words, intConst(n))
	}
	var right, wrong []progTurn
	add := func(is bool, list ...impl.Const) {
		x := progTurn{fmt.Sprint(list), func(p *impl.Prog) { addConst(p, list...) }}
		if is {
			right = append(right, x)
		} else {
			wrong = append(wrong, x)
		}
	}
	add(true, words[:impl.MaxPool]...)
	add(false, words...)
	add(false, intConst(1), intConst(1))
	add(false, classConst("Main"), intConst(2), classConst("Main"))
	for _, k := range []impl.Const{intConst(leastWord), intConst(greatestWord), classConst("Main"), classConst("Bare"), fieldConst("Main", "n"), fieldConst("Far", "n"), fieldConst("Far", "last"), callConst("Far", "run"), callConst("Lone", "next"), callConst("Twin", "own")} {
		add(true, k)
		add(true, intConst(1), k)
		add(false, k, k)
	}
	for _, k := range []impl.Const{
		{}, {Kind: 5}, {Kind: -1}, intConst(greatestWord + 1), intConst(leastWord - 1), {Kind: impl.PlInt, A: "Main"}, {Kind: impl.PlClass, A: "Main", B: "n"}, {Kind: impl.PlClass, A: "Main", N: 1}, {Kind: impl.PlField, A: "Main", B: "n", N: 1},
		classConst(""), classConst("I"), classConst("None"), classConst("main"), fieldConst("None", "n"), fieldConst("Main", "far"), fieldConst("Main", "run"), fieldConst("Bare", "n"), fieldConst("Main", ""), fieldConst("I", "n"),
		callConst("None", "run"), callConst("Main", "own"), callConst("Main", "n"), callConst("Bare", "run"), callConst("Kid", "tell"), callConst("", "run"), callConst("I", "run"),
	} {
		add(false, k)
		add(false, intConst(1), k)
		add(false, k, intConst(1))
	}
	wantTurns(t, true, right)
	wantTurns(t, false, wrong)
}

func TestProgOkFields(t *testing.T) {
	var right, wrong []progTurn
	for s, is := range map[string]bool{"I": true, "Main": true, "Far": true, "Lone": true, "Bare": true, "": false, "i": false, "II": false, "None": false, "a1": false, "main": false} {
		x := progTurn{"a field of type " + s, func(p *impl.Prog) { addField(p, "x", s) }}
		if is {
			right = append(right, x)
		} else {
			wrong = append(wrong, x)
		}
	}
	for n := range 2 * impl.MaxFields {
		x := progTurn{fmt.Sprintf("%d fields", n), func(p *impl.Prog) { p.Kinds[5].Fields = namedFields("a", n) }}
		if n <= impl.MaxFields {
			right = append(right, x)
		} else {
			wrong = append(wrong, x)
		}
	}
	wantTurns(t, true, append(right,
		progTurn{"names of a method and of a field of others", func(p *impl.Prog) { addField(p, "run", "I"); addField(p, "far", "I") }},
		progTurn{"another field at the end", func(p *impl.Prog) { p.Kinds[3].Fields[2].Type = "Main" }},
		progTurn{"its own field twice as far", func(p *impl.Prog) { p.Kinds[3].Fields = append(p.Kinds[3].Fields, impl.Field{Name: "x", Type: "Twin"}) }},
	))
	wantTurns(t, false, append(wrong,
		progTurn{"two of one name", func(p *impl.Prog) { addField(p, "n", "Lone") }},
		progTurn{"two of one name and of two types", func(p *impl.Prog) { addField(p, "n", "I") }},
		progTurn{"a name of its super's twice", func(p *impl.Prog) { p.Kinds[3].Fields[2].Name = "n" }},
		progTurn{"another name than its super's", func(p *impl.Prog) { p.Kinds[3].Fields[0].Name = "x" }},
		progTurn{"another type than its super's", func(p *impl.Prog) { p.Kinds[3].Fields[0].Type = "Main" }},
		progTurn{"its super's in another order", func(p *impl.Prog) { slices.Reverse(p.Kinds[3].Fields[:2]) }},
		progTurn{"its own ahead of its super's", func(p *impl.Prog) { slices.Reverse(p.Kinds[3].Fields) }},
		progTurn{"one of its super's less", func(p *impl.Prog) { p.Kinds[3].Fields = p.Kinds[3].Fields[:1] }},
		progTurn{"none of its super's", func(p *impl.Prog) { p.Kinds[3].Fields = nil }},
		progTurn{"one more at its super alone", func(p *impl.Prog) { p.Kinds[0].Fields = append(p.Kinds[0].Fields, impl.Field{Name: "x", Type: "I"}) }},
	))
}

func TestProgOkMethods(t *testing.T) {
	method := func(turn func(*impl.Code)) func(*impl.Prog) {
		return func(p *impl.Prog) {
			m := retCode("f", 4)
			turn(&m)
			addMethod(p, m)
		}
	}
	var right, wrong []progTurn
	add := func(is bool, what string, turn func(*impl.Prog)) {
		if is {
			right = append(right, progTurn{what, turn})
		} else {
			wrong = append(wrong, progTurn{what, turn})
		}
	}
	for s, is := range map[string]bool{"I": true, "Main": true, "Bare": true, "": false, "i": false, "None": false, "a1": false} {
		add(is, "the result "+s, method(func(m *impl.Code) { m.Result = s }))
		for n := 1; n <= 3; n++ {
			add(is, fmt.Sprintf("the last of %d params %s", n, s), method(func(m *impl.Code) { m.Params, m.Locals = append(slices.Repeat([]string{"I"}, n-1), s), 4 }))
			add(is, fmt.Sprintf("the first of %d params %s", n, s), method(func(m *impl.Code) {
				m.Params, m.Locals = append([]string{s}, slices.Repeat([]string{"Lone"}, n-1)...), 6
			}))
		}
	}
	for params := range 6 {
		for locals := -2; locals < 10; locals++ {
			add(params <= 3 && locals > params && locals <= 6, fmt.Sprintf("%d params and %d locals", params, locals), method(func(m *impl.Code) { m.Params, m.Locals = slices.Repeat([]string{"I"}, params), locals }))
		}
	}
	for _, list := range rightCodes() {
		add(true, "code", method(func(m *impl.Code) { m.List = list }))
	}
	for _, list := range [][]impl.Ins{nil, {}, {push(1)}, {push(128), ret()}, {jump(1)}, {jump(-1)}, {bare(0), ret()}, {bare(25), ret()}, {ins(impl.OpReturn, 1)}, {ins(impl.OpLoad, 6), ret()}, {ins(impl.OpConst, 24), ret()}, slices.Repeat([]impl.Ins{ret()}, impl.MaxCode+1), slices.Repeat([]impl.Ins{jump(0)}, impl.MaxCode/2+1)} {
		add(false, "code that is none", method(func(m *impl.Code) { m.List = list }))
	}
	for n := range 2 * impl.MaxMethods {
		add(n <= impl.MaxMethods, fmt.Sprintf("%d methods", n), func(p *impl.Prog) {
			for i := range n {
				p.Kinds[5].Methods = append(p.Kinds[5].Methods, retCode("m"+someLetters[i:i+1], 5))
			}
		})
	}
	add(true, "the name of a field", method(func(m *impl.Code) { m.Name = "n" }))
	add(false, "two of one name", method(func(m *impl.Code) { m.Name = "next" }))
	add(false, "two of one name, with other params", method(func(m *impl.Code) { m.Name, m.Params, m.Locals = "next", []string{"I"}, 2 }))
	wantTurns(t, true, right)
	wantTurns(t, false, wrong)
}

func TestProgOkMethodsOfTheSuper(t *testing.T) {
	turned := func(kind, at int, turn func(*impl.Code)) func(*impl.Prog) {
		return func(p *impl.Prog) { turn(&p.Kinds[kind].Methods[at]) }
	}
	wantTurns(t, true, []progTurn{
		{"other locals of its own", turned(1, 1, func(m *impl.Code) { m.Locals = 3 })},
		{"other code of its own", turned(2, 1, func(m *impl.Code) { m.List = []impl.Ins{jump(0)} })},
		{"its own in place of one from above", turned(3, 1, func(m *impl.Code) { m.Owner = 3 })},
		{"its own, in other words", turned(3, 1, func(m *impl.Code) { m.Owner, m.Locals, m.List = 3, 6, []impl.Ins{ret()} })},
		{"from above what its super has of its own", func(p *impl.Prog) { p.Kinds[2].Methods[1] = cloneKind(p.Kinds[0]).Methods[1] }},
		{"from its super what was its own", func(p *impl.Prog) { p.Kinds[2].Methods[1] = cloneKind(p.Kinds[1]).Methods[1] }},
	})
	list := []progTurn{
		{"another name", turned(3, 1, func(m *impl.Code) { m.Name, m.Owner = "x", 3 })},
		{"another result", turned(1, 1, func(m *impl.Code) { m.Result = "Main" })},
		{"other params", turned(2, 2, func(m *impl.Code) { m.Params = []string{"I", "Far"} })},
		{"params in another order", turned(2, 2, func(m *impl.Code) { m.Params = []string{"Kid", "I"} })},
		{"one param less", turned(2, 2, func(m *impl.Code) { m.Params = []string{"I"} })},
		{"one param more", turned(1, 1, func(m *impl.Code) { m.Params = []string{"I"} })},
		{"in another order", func(p *impl.Prog) { slices.Reverse(p.Kinds[3].Methods[:3]) }},
		{"its own ahead of its super's", func(p *impl.Prog) { slices.Reverse(p.Kinds[3].Methods) }},
		{"one less", func(p *impl.Prog) { p.Kinds[3].Methods = p.Kinds[3].Methods[:2] }},
		{"none", func(p *impl.Prog) { p.Kinds[3].Methods = nil }},
		{"one more at its super alone", func(p *impl.Prog) { p.Kinds[0].Methods = append(p.Kinds[0].Methods, retCode("x", 0)) }},
		{"an owner above, and other locals", turned(3, 1, func(m *impl.Code) { m.Locals++ })},
		{"an owner above, and other code", turned(3, 1, func(m *impl.Code) { m.List = []impl.Ins{ret()} })},
		{"an owner above that has it from above", func(p *impl.Prog) { p.Kinds[2].Methods[0].Owner = 1 }},
		{"an owner above that has it otherwise", func(p *impl.Prog) { p.Kinds[2].Methods[1].Owner = 1 }},
		{"an owner above that has none of the name", func(p *impl.Prog) { p.Kinds[3].Methods[3].Owner = 0 }},
		{"one from above, behind its own, that its super has not", func(p *impl.Prog) { p.Kinds[3].Methods = append(p.Kinds[3].Methods, retCode("x", 0)) }},
		{"what its super has of its own is its super's super's by number alone", func(p *impl.Prog) { p.Kinds[1].Methods[1].Owner = 0 }},
	}
	for _, owner := range []int{math.MinInt, -2, -1, 1, 2, 4, 5, 6, 7, math.MaxInt} {
		list = append(list, progTurn{fmt.Sprintf("the owner %d", owner), turned(3, 3, func(m *impl.Code) { m.Owner = owner })})
		list = append(list, progTurn{fmt.Sprintf("the owner %d of one from above", owner), turned(3, 0, func(m *impl.Code) { m.Owner = owner })})
	}
	wantTurns(t, false, list)
	wantTurns(t, false, []progTurn{
		{"a class below is no owner", func(p *impl.Prog) { p.Kinds[1].Methods[1] = cloneKind(p.Kinds[2]).Methods[1] }},
		{"a class that is no kin is no owner", func(p *impl.Prog) { p.Kinds[5].Methods = cloneKind(p.Kinds[4]).Methods }},
	})
}

func TestProgOkMain(t *testing.T) {
	for text, is := range map[string]bool{
		mainText: true, "class Main\nmethod f I 1\nreturn\nmethod run I 6\nreturn\n": true,
	} {
		wantProgIf(t, is, progOf(t, text))
		for what, turn := range map[string]func(*impl.Kind){
			"another name":      func(k *impl.Kind) { k.Name = "Mine" },
			"no run":            func(k *impl.Kind) { k.Methods[len(k.Methods)-1].Name = "Run" },
			"no methods":        func(k *impl.Kind) { k.Methods = nil },
			"run with params":   func(k *impl.Kind) { m := &k.Methods[len(k.Methods)-1]; m.Params, m.Locals = []string{"I"}, 2 },
			"run with a result": func(k *impl.Kind) { k.Methods[len(k.Methods)-1].Result = "Main" },
		} {
			p := progOf(t, text)
			turn(&p.Kinds[0])
			if impl.ProgOk(p) || progRight(p) {
				t.Errorf("%s: ProgOk is true", what)
			}
		}
	}
	// Main at another place.
	p := progOf(t, mainText+"class B\nmethod run I 1\nreturn\n")
	p.Kinds[0].Name, p.Kinds[1].Name = "B", "Main"
	wantProgIf(t, false, p)
}

// progInts and the like: places of a program that can be written over.
func progInts(p impl.Prog) []*int {
	var list []*int
	for i := range p.Kinds {
		k := &p.Kinds[i]
		list = append(list, &k.Super)
		for at := range k.Pool {
			list = append(list, &k.Pool[at].Kind, &k.Pool[at].N)
		}
		for at := range k.Methods {
			m := &k.Methods[at]
			list = append(list, &m.Owner, &m.Locals)
			for place := range m.List {
				list = append(list, &m.List[place].Op, &m.List[place].N)
			}
		}
	}
	return list
}

func progTexts(p impl.Prog) []*string {
	var list []*string
	for i := range p.Kinds {
		k := &p.Kinds[i]
		list = append(list, &k.Name)
		for at := range k.Pool {
			list = append(list, &k.Pool[at].A, &k.Pool[at].B)
		}
		for at := range k.Fields {
			list = append(list, &k.Fields[at].Name, &k.Fields[at].Type)
		}
		for at := range k.Methods {
			m := &k.Methods[at]
			list = append(list, &m.Name, &m.Result)
			for place := range m.Params {
				list = append(list, &m.Params[place])
			}
		}
	}
	return list
}

// turnedLists: a list with one left out, doubled, and two in each other's place.
func turnedLists[T any](list []T) [][]T {
	out := [][]T{nil}
	for i := range list {
		out = append(out, slices.Delete(slices.Clone(list), i, i+1), slices.Insert(slices.Clone(list), i, list[i]))
		for k := range i {
			swapped := slices.Clone(list)
			swapped[i], swapped[k] = swapped[k], swapped[i]
			out = append(out, swapped)
		}
	}
	return out
}

// listTurns gives programs in which one list is turned.
func listTurns(p impl.Prog) []impl.Prog {
	var out []impl.Prog
	add := func(turn func(q impl.Prog)) {
		q := cloneProg(p)
		turn(q)
		out = append(out, q)
	}
	for _, kinds := range turnedLists(p.Kinds) {
		out = append(out, cloneProg(impl.Prog{Kinds: kinds}))
	}
	for i, k := range p.Kinds {
		for _, pool := range turnedLists(k.Pool) {
			add(func(q impl.Prog) { q.Kinds[i].Pool = pool })
		}
		for _, fields := range turnedLists(k.Fields) {
			add(func(q impl.Prog) { q.Kinds[i].Fields = fields })
		}
		for _, methods := range turnedLists(k.Methods) {
			add(func(q impl.Prog) { q.Kinds[i].Methods = methods })
		}
		for at, m := range k.Methods {
			for _, params := range turnedLists(m.Params) {
				add(func(q impl.Prog) { q.Kinds[i].Methods[at].Params = params })
			}
			for _, places := range turnedLists(m.List) {
				add(func(q impl.Prog) { q.Kinds[i].Methods[at].List = places })
			}
		}
	}
	return out
}

// Whatever stands at one place of a program: it is right just where each condition holds.
func TestProgOkOfTurnedPrograms(t *testing.T) {
	var counts [2]int
	want := func(p impl.Prog) {
		t.Helper()
		is := progRight(p)
		if impl.ProgOk(p) != is {
			t.Fatalf("ProgOk(%+v) is %v", p, !is)
		}
		if is {
			counts[1]++
			wantInherited(t, p)
		} else {
			counts[0]++
		}
	}
	for _, text := range []string{mainText, familyText, mainText + "class A Main\nfield x I\nmethod f I 1\nreturn\nclass B A\nclass C B\nmethod f I 1\nreturn\nmethod run I 1\nreturn\n"} {
		p := progOf(t, text)
		for i := range progInts(p) {
			for _, n := range []int{math.MinInt, -129, -2, -1, 0, 1, 2, 3, 4, 5, 6, 7, 10, 19, 24, 25, 127, 128, math.MaxInt} {
				q := cloneProg(p)
				*progInts(q)[i] = n
				want(q)
			}
		}
		for i := range progTexts(p) {
			for _, s := range []string{"", "I", "Main", "Kid", "Far", "A", "B", "run", "get", "n", "far", "x", "a1", "None", longestName, longestName + "x"} {
				q := cloneProg(p)
				*progTexts(q)[i] = s
				want(q)
			}
		}
		for _, q := range listTurns(p) {
			want(q)
		}
	}
	if counts[0] < 1000 || counts[1] < 500 {
		t.Errorf("%d wrong, %d right", counts[0], counts[1])
	}
}

// A field's and a method's Name may be any text in a program: chapter 10 asks of it only that no two are alike.
func TestProgOkNamesOfParts(t *testing.T) {
	for _, s := range []string{"", "a1", "I", "a b", "\xff", longestName + "x"} {
		wantTurns(t, true, []progTurn{
			{"a field's name " + s, func(p *impl.Prog) { addField(p, s, "I") }},
			{"a method's name " + s, func(p *impl.Prog) { addMethod(p, retCode(s, 4)) }},
		})
	}
}

// dice throws numbers that are the same each time.
type dice uint32

func (d *dice) below(n int) int {
	*d = *d*1664525 + 1013904223
	return int(*d>>8) % n
}

func (d *dice) of(list ...string) string { return list[d.below(len(list))] }

func (d *dice) someMethod(name, kin string) impl.Method {
	if name == "run" {
		return method("run", 1+d.below(6), "\x01\x80\x13", "I")
	}
	var params []string
	for range d.below(3) {
		params = append(params, d.of("I", "I", "Main", kin))
	}
	if d.below(3) > 0 {
		params = nil
	}
	return method(name, 4, d.of("\x13", "\x0e\x00", "\x01\x80\x13"), d.of("I", "I", "I", kin), params...)
}

// someSet has mostly classes that go together, and now and then one that does not.
func (d *dice) someSet() []impl.Class {
	names := []string{"Main", "A", "B", "C", "D", "E"}[:1+d.below(6)]
	if d.below(30) == 0 {
		names[d.below(len(names))] = "Else"
	}
	var list []impl.Class
	for i, name := range names {
		c := impl.Class{Name: name}
		if i > 0 && d.below(4) > 0 {
			c.Super = names[d.below(i)]
		}
		for _, s := range []string{"n", "m", "o", "p" + name, "q" + name, "r" + name} {
			if odds := 2 + 8*(2-min(len(s), 2)); d.below(odds) == 0 {
				c.Fields = append(c.Fields, impl.Field{Name: s, Type: d.of("I", "I", "Main", name)})
			}
		}
		for _, s := range []string{"run", "f", "g" + name, "h" + name} {
			if s == "run" && (i == 0 || d.below(3) == 0) || d.below(4) == 0 {
				c.Methods = append(c.Methods, d.someMethod(s, name))
			}
		}
		for range d.below(3) {
			k := []impl.Const{intConst(d.below(9)), classConst(d.of(names...)), fieldConst(name, d.of("n", "m", "p"+name)), callConst(d.of(names...), "run")}[d.below(4)]
			if !slices.Contains(c.Pool, k) && d.below(2) == 0 {
				c.Pool = append(c.Pool, k)
			}
		}
		list = append(list, c)
	}
	if d.below(20) == 0 {
		c := &list[d.below(len(list))]
		*[]*string{&c.Name, &c.Super}[d.below(2)] = d.of("Main", "A", "B", "I", "None")
	}
	if d.below(20) == 0 {
		list[d.below(len(list))].Fields = []impl.Field{{Name: "z", Type: "None"}}
	}
	return list
}

// P10, of sets of all sorts; each code is met often.
func TestLinkOfManySets(t *testing.T) {
	t.Parallel()
	var counts [9]int
	d := dice(10)
	for range 20000 {
		list := d.someSet()
		how := wantLink(t, list)
		counts[how]++
		if how != impl.LnDone {
			continue
		}
		p, _ := impl.Link(list)
		for a := range p.Kinds {
			for b := range p.Kinds {
				if impl.Sub(p, a, b) != slices.Contains(linkBook(list).line(a), b) {
					t.Fatalf("Sub %d %d of %+v", a, b, p)
				}
			}
		}
	}
	for code, n := range counts {
		if n < 50 {
			t.Errorf("code %d is met %d times: %v", code, n, counts)
		}
	}
}

// P33: what is far too much is answered, too.
func TestLinkOfWhatIsFarTooGreat(t *testing.T) {
	const many = 1 << 18
	long := strings.Repeat("A", many)
	for _, c := range []impl.Class{
		{Name: long}, {Name: "A", Super: long}, {Name: "A", Pool: make([]impl.Const, many)}, {Name: "A", Fields: make([]impl.Field, many)}, {Name: "A", Methods: make([]impl.Method, many)},
		{Name: "A", Methods: []impl.Method{method("f", 1, long, "I")}}, {Name: "A", Methods: []impl.Method{{Name: "f", Result: "I", Locals: 1, Params: make([]string, many), Code: []byte{19}}}},
	} {
		if _, how := impl.Link(withMain(c)); how != impl.LnBad {
			t.Errorf("%.20s.. is linked: %d", c.Name, how)
		}
	}
	for _, k := range []impl.Kind{
		{Name: long, Super: -1}, {Name: "A", Super: -1, Pool: make([]impl.Const, many)}, {Name: "A", Super: -1, Fields: make([]impl.Field, many)}, {Name: "A", Super: -1, Methods: make([]impl.Code, many)},
		{Name: "A", Super: -1, Methods: []impl.Code{{Name: "f", Owner: 1, Params: make([]string, many), Locals: 1, Result: "I", List: []impl.Ins{ret()}}}},
		{Name: "A", Super: -1, Methods: []impl.Code{{Name: "f", Owner: 1, Locals: 1, Result: "I", List: make([]impl.Ins, many)}}},
	} {
		p := progOf(t, mainText)
		p.Kinds = append(p.Kinds, k)
		if impl.ProgOk(p) {
			t.Errorf("%.20s.. is right", k.Name)
		}
		p.Kinds[1].Super = 0
		if impl.ProgOk(p) {
			t.Errorf("%.20s.. is right", k.Name)
		}
	}
	kinds := impl.Prog{Kinds: make([]impl.Kind, many)}
	for i := range kinds.Kinds {
		kinds.Kinds[i].Super = i - 1
	}
	if impl.ProgOk(kinds) || impl.KindOf(kinds, "A") != -1 || impl.Sub(kinds, many-1, 0) || !impl.Sub(kinds, many-1, many-7) {
		t.Error("many kinds")
	}
}

// setsForMemory: right and wrong ones, of which nothing may be written into.
func setsForMemory(t *testing.T) [][]impl.Class {
	list := [][]impl.Class{nil, setOf(t, familyText), setOf(t, mainText), withMain(fullClass()), withMain(someClass())}
	for _, x := range linkFaults() {
		list = append(list, x.firstOf())
	}
	d := dice(5)
	for range 50 {
		list = append(list, d.someSet())
	}
	return list
}

// roomyProg has spare room behind each of its lists, and wholeProg goes to the end of it.
func roomyProg(p impl.Prog) impl.Prog {
	p = cloneProg(p)
	for i, k := range p.Kinds {
		for at, m := range k.Methods {
			k.Methods[at].Params, _ = roomy(m.Params, "spare")
			k.Methods[at].List, _ = roomy(m.List, ins(77, 77))
		}
		k.Pool, _ = roomy(k.Pool, intConst(77))
		k.Fields, _ = roomy(k.Fields, impl.Field{Name: "spare", Type: "spare"})
		k.Methods, _ = roomy(k.Methods, retCode("spare", 77))
		p.Kinds[i] = k
	}
	p.Kinds, _ = roomy(p.Kinds, impl.Kind{Name: "Spare", Super: 0})
	return p
}

func wholeProg(p impl.Prog) impl.Prog {
	p.Kinds = slices.Clone(p.Kinds[:cap(p.Kinds)])
	for i, k := range p.Kinds {
		k.Pool, k.Fields, k.Methods = k.Pool[:cap(k.Pool)], k.Fields[:cap(k.Fields)], slices.Clone(k.Methods[:cap(k.Methods)])
		for at, m := range k.Methods {
			k.Methods[at].Params, k.Methods[at].List = m.Params[:cap(m.Params)], m.List[:cap(m.List)]
		}
		p.Kinds[i] = k
	}
	return p
}

// tellProg: what the functions of this chapter answer to a program.
func tellProg(p impl.Prog) string {
	told := fmt.Sprint(impl.ProgOk(p))
	for k := -1; k <= len(p.Kinds)+1; k++ {
		for _, name := range []string{"Main", "n", "run", "f", "get", "far", "spare", "Spare", ""} {
			told += fmt.Sprint(impl.KindOf(p, name), impl.FieldOf(p, k, name), impl.MethodOf(p, k, name), ";")
		}
		for b := -1; b <= len(p.Kinds)+1; b++ {
			told += fmt.Sprint(impl.Sub(p, k, b))
		}
	}
	return told
}

// P33: neither the classes, nor their lists, nor the spare room behind them are written; what stands there does not count.
func TestLinkWritesNothing(t *testing.T) {
	for _, list := range setsForMemory(t) {
		given := cloneSet(list)
		for i, c := range given {
			given[i] = roomyClass(c)
		}
		given, whole := roomy(given, impl.Class{Name: "Spare", Super: "Main"})
		var were []impl.Class
		for _, c := range whole {
			were = append(were, cloneClass(wholeClass(c)))
		}
		got, how := impl.Link(given)
		want, code := linkThere(list)
		if how != code || !sameProg(got, want) {
			t.Fatalf("Link(%+v) = %+v, %d hangs on the room behind it", list, got, how)
		}
		for i, c := range whole {
			if !sameClass(wholeClass(c), were[i]) {
				t.Fatalf("class %d of %+v is written into", i, list)
			}
		}
	}
}

// wantUnwritten: of each program neither its lists nor the spare room behind them are written, and what stands there is not told.
func wantUnwritten(t *testing.T, list []impl.Prog, tell func(impl.Prog) string) {
	t.Helper()
	for _, p := range list {
		given := roomyProg(p)
		were := cloneProg(wholeProg(given))
		if tell(given) != tell(cloneProg(p)) {
			t.Fatalf("%+v: an answer hangs on the room behind it", p)
		}
		if !sameProg(wholeProg(given), were) || !sameProg(given, p) {
			t.Fatalf("%+v is written into", p)
		}
	}
}

func TestProgramsAreNotWritten(t *testing.T) {
	p := progOf(t, familyText)
	wantUnwritten(t, append(listTurns(p), p, impl.Prog{}, supersOf(1, 2, 0), supersOf(-1, 0, 1, 2, 3, 4, 5, 6)), tellProg)
}

// progLists gathers all lists of a program, those in the spare room of others among them.
type progLists struct {
	kinds   []impl.Kind
	pools   [][]impl.Const
	fields  [][]impl.Field
	methods [][]impl.Code
	params  [][]string
	codes   [][]impl.Ins
}

func listsOfProg(p impl.Prog) progLists {
	x := progLists{kinds: p.Kinds[:cap(p.Kinds)]}
	for _, k := range x.kinds {
		x.pools, x.fields = append(x.pools, k.Pool[:cap(k.Pool)]), append(x.fields, k.Fields[:cap(k.Fields)])
		x.methods = append(x.methods, k.Methods[:cap(k.Methods)])
		for _, m := range k.Methods[:cap(k.Methods)] {
			x.params, x.codes = append(x.params, m.Params[:cap(m.Params)]), append(x.codes, m.List[:cap(m.List)])
		}
	}
	return x
}

// marked writes another mark into each of the lists, and tells whether each has its own then.
func marked[T any](lists [][]T, write func(x *T, mark int), read func(x T) int) bool {
	for mark, list := range lists {
		for i := range list {
			write(&list[i], mark)
		}
	}
	for mark, list := range lists {
		if slices.ContainsFunc(list, func(x T) bool { return read(x) != mark }) {
			return false
		}
	}
	return true
}

func (x progLists) apart() bool {
	return marked(x.pools, func(k *impl.Const, n int) { k.N = n }, func(k impl.Const) int { return k.N }) &&
		marked(x.fields, func(f *impl.Field, n int) { f.Name = strconv.Itoa(n) }, func(f impl.Field) int { n, _ := strconv.Atoi(f.Name); return n }) &&
		marked(x.methods, func(m *impl.Code, n int) { m.Locals = n }, func(m impl.Code) int { return m.Locals }) &&
		marked(x.params, func(s *string, n int) { *s = strconv.Itoa(n) }, func(s string) int { n, _ := strconv.Atoi(s); return n }) &&
		marked(x.codes, func(y *impl.Ins, n int) { y.N = n }, func(y impl.Ins) int { return y.N })
}

// P33: no two lists of one answer share any memory, those of a class and of its super neither.
func TestListsOfOneProgramAreApart(t *testing.T) {
	linked := 0
	for _, list := range setsForMemory(t) {
		p, how := impl.Link(list)
		if how != impl.LnDone {
			continue
		}
		linked++
		if !listsOfProg(p).apart() {
			t.Fatalf("two lists of what Link makes of %+v share memory", list)
		}
	}
	if linked < 10 {
		t.Errorf("%d linked", linked)
	}
}

func spoilProg(p impl.Prog) {
	x := listsOfProg(p)
	for i := range x.pools {
		spoilAll(x.pools[i], intConst(55))
		spoilAll(x.fields[i], impl.Field{Name: "spoilt", Type: "spoilt"})
	}
	for i := range x.params {
		spoilAll(x.params[i], "spoilt")
		spoilAll(x.codes[i], ins(55, 55))
	}
	for i := range x.methods {
		spoilAll(x.methods[i], retCode("spoilt", 55))
	}
	spoilAll(x.kinds, impl.Kind{Name: "spoilt"})
}

func spoilSet(list []impl.Class) {
	for _, c := range list {
		for number := 0; spoilList(c, number); number++ {
		}
		spoilAll(c.Methods, impl.Method{Name: "spoilt"})
	}
	spoilAll(list, impl.Class{Name: "spoilt"})
}

// textsOfProg has all texts of a program.
func textsOfProg(p impl.Prog) []string {
	var list []string
	for _, s := range progTexts(p) {
		list = append(list, *s)
	}
	return list
}

// P33: an answer shares no memory with the classes, nor with another answer, nor is a text of it a piece of theirs.
func TestProgramsAreNewMemory(t *testing.T) {
	for _, list := range setsForMemory(t) {
		want, code := linkThere(cloneSet(list))
		given := cloneSet(list)
		first, _ := impl.Link(given)
		second, _ := impl.Link(given)
		for _, c := range given {
			for _, whole := range textsOf(c) {
				for _, part := range textsOfProg(first) {
					if pieceOf(whole, part) {
						t.Fatalf("%q shares memory with %+v", part, c)
					}
				}
			}
		}
		spoilProg(first)
		if !sameSet(given, list) || !sameProg(second, want) {
			t.Fatalf("what Link makes of %+v shares memory", list)
		}
		third, how := impl.Link(given)
		spoilSet(given)
		if how != code || !sameProg(second, want) || !sameProg(third, want) {
			t.Fatalf("what Link makes of %+v shares memory with it", list)
		}
	}
}

// wantToldAgain: whatever was asked ahead of it, right or wrong, what is told is the same, however often it is asked for.
func wantToldAgain[T any](t *testing.T, list []T, tell func(T) string) {
	t.Helper()
	var were []string
	for _, x := range list {
		were = append(were, tell(x))
	}
	for _, step := range []int{1, 7, 11, len(list) - 1} {
		for i := range list {
			at := i * step % len(list)
			if now := tell(list[at]); now != were[at] {
				t.Fatalf("%+v: now %s, ahead of it %s", list[at], now, were[at])
			}
		}
	}
	for range 300 {
		if now := tell(list[0]); now != were[0] {
			t.Fatalf("%+v: now %s, ahead of it %s", list[0], now, were[0])
		}
	}
}

// wantToldAtOnce: many that ask at once are answered as one that asks alone; all of them are given the same memory.
func wantToldAtOnce[T any](t *testing.T, list []T, tell func(T) string) {
	t.Helper()
	var were []string
	for _, x := range list {
		were = append(were, tell(x))
	}
	var group sync.WaitGroup
	var wrong [8]int
	for i := range wrong {
		group.Go(func() {
			for k := range list {
				at := (k*(1+2*(i%4)) + i) % len(list)
				if tell(list[at]) != were[at] {
					wrong[i]++
				}
			}
		})
	}
	group.Wait()
	if wrong != [8]int{} {
		t.Fatalf("at once, others are told: %v", wrong)
	}
}

func TestLinkKeepsNothing(t *testing.T) {
	wantToldAgain(t, append([][]impl.Class{setOf(t, familyText)}, setsForMemory(t)...), func(set []impl.Class) string {
		p, how := impl.Link(set)
		return fmt.Sprintf("%+v %d %s", p, how, tellProg(p))
	})
}
