package tests

import (
	"bytes"
	"fmt"
	"math"
	"slices"
	"strings"
	"testing"

	"loop.example/g00283/impl"
)

const someLetters = "abcdefghijklmnopqrstuvwxyzABCDEFGHIJKLMNOPQRSTUVWXYZ"

// manyConsts: n consts, no two alike, of all kinds by turns.
func manyConsts(n int) []impl.Const {
	var list []impl.Const
	for i := range n {
		name := someLetters[i%52 : i%52+1]
		list = append(list, []impl.Const{intConst(-i * 1000), classConst(name), fieldConst(name, "n"), callConst("Main", name)}[i%4])
	}
	return list
}

func manyFields(n int) []impl.Field {
	var list []impl.Field
	for i := range n {
		list = append(list, impl.Field{Name: "f" + someLetters[i:i+1], Type: []string{"I", "Cell", longestName}[i%3]})
	}
	return list
}

// manyMethods: n methods, no two of one Name, with each number of Params by turns.
func manyMethods(n int) []impl.Method {
	types := []string{"I", "Main", longestName, "II"}
	var list []impl.Method
	for i := range n {
		list = append(list, impl.Method{
			Name:   "m" + someLetters[i:i+1],
			Params: slices.Clone(types[:i%(impl.MaxParams+1)]),
			Result: types[(i+1)%len(types)],
			Locals: impl.MaxLocals - i%3,
			Code:   codeOf(1 + i*17),
		})
	}
	return list
}

func codeOf(size int) []byte {
	code := make([]byte, size)
	for i := range code {
		code[i] = byte(i*37 + size)
	}
	return code
}

func method(name string, locals int, code string, result string, params ...string) impl.Method {
	return impl.Method{Name: name, Params: params, Result: result, Locals: locals, Code: []byte(code)}
}

// someClass has some of all, and its lists are its own.
func someClass() impl.Class {
	return impl.Class{
		Name: "Main", Super: "Base",
		Pool:    []impl.Const{intConst(-5), classConst("Cell"), fieldConst("Cell", "n"), callConst("Main", "run")},
		Fields:  []impl.Field{{Name: "n", Type: "I"}, {Name: "next", Type: "Main"}},
		Methods: []impl.Method{method("run", 1, "\x13", "I"), method("put", 4, "\x00\xff\x80", "Main", "I", "Cell"), method("n", 6, "\x01\x85\x13", "I", "I", "I", "I")},
	}
}

func fullClass() impl.Class {
	methods := manyMethods(impl.MaxMethods)
	for i := range methods {
		methods[i].Code = codeOf(impl.MaxCode)
		methods[i].Params = []string{longestName, "I", longestName}
	}
	return impl.Class{Name: longestName, Super: longestName, Pool: manyConsts(impl.MaxPool), Fields: manyFields(impl.MaxFields), Methods: methods}
}

func rightClasses() []impl.Class {
	list := []impl.Class{{Name: "A"}, {Name: "a", Super: "Z"}, {Name: longestName, Super: longestName}, {Name: "II", Super: "i"}, someClass(), fullClass()}
	for n := range impl.MaxPool + 1 {
		list = append(list, impl.Class{
			Name: "Cell", Super: []string{"", "Base"}[n%2], Pool: manyConsts(n),
			Fields: manyFields(n % (impl.MaxFields + 1)), Methods: manyMethods(n * 5 % (impl.MaxMethods + 1)),
		})
	}
	return append(list,
		impl.Class{Name: "P", Pool: manyConsts(3)},
		impl.Class{Name: "F", Fields: manyFields(3)},
		impl.Class{Name: "M", Methods: manyMethods(5)},
		impl.Class{Name: "X", Super: "X", Fields: []impl.Field{{Name: "I", Type: "X"}}, Methods: []impl.Method{method("I", 1, "I", "X")}},
	)
}

func rawMethod(m impl.Method) []byte {
	out := slices.Concat(rawText(m.Name), impl.PutNum(len(m.Params)))
	for _, s := range m.Params {
		out = append(out, rawText(s)...)
	}
	return slices.Concat(out, rawText(m.Result), impl.PutNum(m.Locals), impl.PutNum(len(m.Code)), m.Code)
}

// rawClass writes a class down whether it is right or not.
func rawClass(c impl.Class) []byte {
	out := slices.Concat(rawText(c.Name), rawText(c.Super), impl.PutNum(len(c.Pool)))
	for _, k := range c.Pool {
		out = append(out, rawConst(k)...)
	}
	out = append(out, impl.PutNum(len(c.Fields))...)
	for _, f := range c.Fields {
		out = slices.Concat(out, rawText(f.Name), rawText(f.Type))
	}
	out = append(out, impl.PutNum(len(c.Methods))...)
	for _, m := range c.Methods {
		out = append(out, rawMethod(m)...)
	}
	return out
}

func sameMethod(a, b impl.Method) bool {
	return a.Name == b.Name && slices.Equal(a.Params, b.Params) && a.Result == b.Result && a.Locals == b.Locals && bytes.Equal(a.Code, b.Code)
}

func sameClass(a, b impl.Class) bool {
	return a.Name == b.Name && a.Super == b.Super && slices.Equal(a.Pool, b.Pool) && slices.Equal(a.Fields, b.Fields) && slices.EqualFunc(a.Methods, b.Methods, sameMethod)
}

func cloneClass(c impl.Class) impl.Class {
	c.Pool, c.Fields, c.Methods = slices.Clone(c.Pool), slices.Clone(c.Fields), slices.Clone(c.Methods)
	for i, m := range c.Methods {
		c.Methods[i].Params, c.Methods[i].Code = slices.Clone(m.Params), slices.Clone(m.Code)
	}
	return c
}

// A classBook reads a class byte by byte, without the program; what was wrong anywhere stays so.
type classBook struct {
	rest  []byte
	wrong bool
}

func (x *classBook) fail() { x.rest, x.wrong = nil, true }

// number reads one that is below 128: all the numbers of a class that is right are.
func (x *classBook) number(least, most int) int {
	if len(x.rest) == 0 || int(x.rest[0]) < least || int(x.rest[0]) > most {
		x.fail()
		return 0
	}
	n := int(x.rest[0])
	x.rest = x.rest[1:]
	return n
}

func (x *classBook) name() string {
	s, more := nameThere(x.rest)
	if more == 0 {
		x.fail()
		return ""
	}
	x.rest = x.rest[more:]
	return s
}

func (x *classBook) constant() impl.Const {
	k, more, ok := constThere(x.rest)
	if !ok {
		x.fail()
		return impl.Const{}
	}
	x.rest = x.rest[more:]
	return k
}

func (x *classBook) method() impl.Method {
	m := impl.Method{Name: x.name()}
	for range x.number(0, 3) {
		m.Params = append(m.Params, x.name())
	}
	m.Result = x.name()
	m.Locals = x.number(len(m.Params)+1, 6)
	size := x.number(1, 90)
	if size > len(x.rest) {
		x.fail()
		return m
	}
	m.Code = slices.Clone(x.rest[:size])
	x.rest = x.rest[size:]
	return m
}

func (x *classBook) class() impl.Class {
	c := impl.Class{Name: x.name()}
	if len(x.rest) > 0 && x.rest[0] == 0 {
		x.rest = x.rest[1:]
	} else {
		c.Super = x.name()
	}
	for range x.number(0, 24) {
		c.Pool = append(c.Pool, x.constant())
	}
	for range x.number(0, 8) {
		c.Fields = append(c.Fields, impl.Field{Name: x.name(), Type: x.name()})
	}
	for range x.number(0, 6) {
		c.Methods = append(c.Methods, x.method())
	}
	return c
}

func classThere(b []byte) (impl.Class, bool) {
	x := classBook{rest: b}
	c := x.class()
	if x.wrong || len(x.rest) > 0 || c.Name == "I" || c.Super == "I" {
		return impl.Class{}, false
	}
	consts, fields, methods := map[impl.Const]int{}, map[string]int{}, map[string]int{}
	for _, k := range c.Pool {
		consts[k]++
	}
	for _, f := range c.Fields {
		fields[f.Name]++
	}
	for _, m := range c.Methods {
		methods[m.Name]++
	}
	if len(consts) < len(c.Pool) || len(fields) < len(c.Fields) || len(methods) < len(c.Methods) {
		return impl.Class{}, false
	}
	return c, true
}

// wantNoClass: beside the false stands the zero value, no part of what was read ahead of the fault.
func wantNoClass(t *testing.T, b []byte) {
	t.Helper()
	if c, ok := impl.ClassOf(b); ok || !sameClass(c, impl.Class{}) {
		t.Fatalf("ClassOf(%q) = %+v, %v; want none", b, c, ok)
	}
}

// wantClassThere tells whether there was one.
func wantClassThere(t *testing.T, b []byte) bool {
	t.Helper()
	want, is := classThere(b)
	if !is {
		wantNoClass(t, b)
		return false
	}
	if got, ok := impl.ClassOf(b); !ok || !sameClass(got, want) {
		t.Fatalf("ClassOf(%q) = %+v, %v; want %+v", b, got, ok, want)
	}
	if got := impl.ClassBytes(want); !impl.ClassOk(want) || !bytes.Equal(got, b) {
		t.Fatalf("ClassBytes(%+v) = %q, want %q", want, got, b)
	}
	return true
}

func wantClass(t *testing.T, c impl.Class) {
	t.Helper()
	if !impl.ClassOk(c) {
		t.Fatalf("ClassOk(%+v) is false", c)
	}
	b := impl.ClassBytes(c)
	if want := rawClass(c); !bytes.Equal(b, want) {
		t.Fatalf("ClassBytes(%+v) = %q, want %q", c, b, want)
	}
	if got, ok := impl.ClassOf(b); !ok || !sameClass(got, c) {
		t.Fatalf("ClassOf(%q) = %+v, %v; want %+v", b, got, ok, c)
	}
}

// wantWrongClass: its bytes, if anyone wrote them, are no class.
func wantWrongClass(t *testing.T, c impl.Class) {
	t.Helper()
	wantNotOk(t, c)
	wantNoClass(t, rawClass(c))
}

// wantNotOk is for what has no bytes, or those of another class.
func wantNotOk(t *testing.T, c impl.Class) {
	t.Helper()
	if impl.ClassOk(c) {
		t.Fatalf("ClassOk(%+v) is true", c)
	}
	if b := impl.ClassBytes(c); len(b) != 0 {
		t.Fatalf("ClassBytes(%+v) = %q", c, b)
	}
}

func wantClassIf(t *testing.T, c impl.Class, right bool) {
	t.Helper()
	if right {
		wantClass(t, c)
	} else {
		wantWrongClass(t, c)
	}
}

// wantTurnedClass asks for one that is as someClass, but for what turn does to it.
func wantTurnedClass(t *testing.T, right bool, turn func(*impl.Class)) {
	t.Helper()
	c := someClass()
	turn(&c)
	wantClassIf(t, c, right)
}

func TestClassConstantsAndZero(t *testing.T) {
	if impl.MaxPool != 24 || impl.MaxMethods != 6 || impl.MaxLocals != 6 || impl.MaxCode != 90 || impl.MaxParams != 3 || impl.MaxFields != 8 {
		t.Error("limits")
	}
	wantWrongClass(t, impl.Class{})
	wantNoClass(t, nil)
	wantNoClass(t, []byte{})
}

func TestClassBytes(t *testing.T) {
	for _, x := range []struct {
		c    impl.Class
		want string
	}{
		{impl.Class{Name: "A"}, "\x01A\x00\x00\x00\x00"},
		{impl.Class{Name: "Main", Super: "Base"}, "\x04Main\x04Base\x00\x00\x00"},
		{impl.Class{Name: "A", Pool: []impl.Const{intConst(5), callConst("A", "b")}}, "\x01A\x00\x02\x01\x05\x00\x00\x00\x04\x01A\x01b\x00\x00"},
		{impl.Class{Name: "A", Fields: []impl.Field{{Name: "n", Type: "I"}, {Name: "m", Type: "Cell"}}}, "\x01A\x00\x00\x02\x01n\x01I\x01m\x04Cell\x00"},
		{impl.Class{Name: "A", Methods: []impl.Method{method("f", 1, "\x13", "I")}}, "\x01A\x00\x00\x00\x01\x01f\x00\x01I\x01\x01\x13"},
		{impl.Class{Name: "A", Methods: []impl.Method{method("g", 5, "\x80\x00", "B", "I", "Cell", "I"), method("f", 2, "ab", "I", "A")}},
			"\x01A\x00\x00\x00\x02\x01g\x03\x01I\x04Cell\x01I\x01B\x05\x02\x80\x00\x01f\x01\x01A\x01I\x02\x02ab"},
		{someClass(), "\x04Main\x04Base" + "\x04\x01\xfb\xff\xff\xff\x02\x04Cell\x03\x04Cell\x01n\x04\x04Main\x03run" + "\x02\x01n\x01I\x04next\x04Main" +
			"\x03\x03run\x00\x01I\x01\x01\x13" + "\x03put\x02\x01I\x04Cell\x04Main\x04\x03\x00\xff\x80" + "\x01n\x03\x01I\x01I\x01I\x01I\x06\x03\x01\x85\x13"},
	} {
		if got := string(impl.ClassBytes(x.c)); got != x.want {
			t.Errorf("ClassBytes(%+v) = %q, want %q", x.c, got, x.want)
		}
		if got, ok := impl.ClassOf([]byte(x.want)); !ok || !sameClass(got, x.c) {
			t.Errorf("ClassOf(%q) = %+v, %v", x.want, got, ok)
		}
	}
}

func TestClassesArePutAndRead(t *testing.T) {
	for _, c := range rightClasses() {
		wantClass(t, c)
		if !wantClassThere(t, rawClass(c)) {
			t.Fatalf("%+v is none", c)
		}
	}
}

// Nil and an empty list are the same value, in a class and in a method.
func TestEmptyListsOfClasses(t *testing.T) {
	wantClass(t, impl.Class{Name: "A", Pool: []impl.Const{}, Fields: []impl.Field{}, Methods: []impl.Method{}})
	wantTurnedClass(t, true, func(c *impl.Class) { c.Methods[1].Params = []string{} })
	wantTurnedClass(t, true, func(c *impl.Class) { c.Methods[1].Params = nil })
	wantTurnedClass(t, false, func(c *impl.Class) { c.Methods[1].Code = []byte{} })
	wantTurnedClass(t, false, func(c *impl.Class) { c.Methods[1].Code = nil })
}

// textCases: texts by whether they are names; `I` is asked for by itself.
func textCases() map[string]bool {
	list := map[string]bool{
		"a": true, "z": true, "A": true, "Z": true, "i": true, "II": true, "Ia": true, "aI": true, "IIIIIIII": true, "Main": true, "class": true, longestName: true,
		"": false, longestName + "x": false, "IIIIIIIII": false, " ": false, "a b": false, "a ": false, " I": false, "I ": false, "I\x00": false,
		"a1": false, "1": false, "@": false, "[": false, "`": false, "{": false, "a.b": false, "a_b": false, "\x00": false, "\n": false, "\xff": false, "\u00e9": false, "\u0130": false, "\uff29": false,
	}
	for _, size := range []int{127, 128, impl.MaxText, impl.MaxText + 1, 256 + impl.MaxName, 5000} {
		list[strings.Repeat("m", size)] = false
	}
	for x := range 256 {
		if one := string([]byte{byte(x)}); one != "I" {
			list[one] = strings.Contains(someLetters, one)
			list["abc"+one+"efg"] = list[one]
			list["Main"+one] = list[one]
		}
	}
	return list
}

func TestClassNames(t *testing.T) {
	for s, name := range textCases() {
		wantClassIf(t, impl.Class{Name: s}, name)
		wantClassIf(t, impl.Class{Name: "A", Super: s}, name || s == "")
		wantTurnedClass(t, name, func(c *impl.Class) { c.Name = s })
		wantTurnedClass(t, name || s == "", func(c *impl.Class) { c.Super = s })
		wantTurnedClass(t, name, func(c *impl.Class) { c.Name, c.Super = s, s })
	}
	wantWrongClass(t, impl.Class{Name: "I"})
	wantWrongClass(t, impl.Class{Name: "A", Super: "I"})
	wantWrongClass(t, impl.Class{Name: "I", Super: "I"})
	wantTurnedClass(t, false, func(c *impl.Class) { c.Name = "I" })
	wantTurnedClass(t, false, func(c *impl.Class) { c.Super = "I" })
}

func TestNamesOfFieldsAndMethods(t *testing.T) {
	list := textCases()
	list["I"] = true
	for s, name := range list {
		for i := range 2 {
			wantTurnedClass(t, name, func(c *impl.Class) { c.Fields[1-i].Name, c.Fields[i].Name = "other", s })
		}
		for i := range 3 {
			wantTurnedClass(t, name, func(c *impl.Class) { c.Methods[2].Name, c.Methods[i].Name = "other", s })
		}
	}
}

func TestTypesOfFieldsParamsAndResults(t *testing.T) {
	list := textCases()
	list["I"] = true
	for s, name := range list {
		for i := range 2 {
			wantTurnedClass(t, name, func(c *impl.Class) { c.Fields[i].Type = s })
		}
		for i := range 3 {
			wantTurnedClass(t, name, func(c *impl.Class) { c.Methods[i].Result = s })
			wantTurnedClass(t, name, func(c *impl.Class) { c.Methods[2].Params[i] = s })
		}
		wantTurnedClass(t, name, func(c *impl.Class) { c.Methods[0].Params, c.Methods[0].Locals = []string{s}, 2 })
	}
}

func TestPoolsHowMany(t *testing.T) {
	for n := range 2 * impl.MaxPool {
		wantClassIf(t, impl.Class{Name: "A", Pool: manyConsts(n)}, n <= impl.MaxPool)
		wantTurnedClass(t, n <= impl.MaxPool, func(c *impl.Class) { c.Pool = manyConsts(n) })
	}
	var words []impl.Const
	for n := range 300 {
		words = append(words, intConst(n))
	}
	wantClass(t, impl.Class{Name: "A", Pool: words[:impl.MaxPool]})
	for _, n := range []int{impl.MaxPool + 1, 127, 128, 256, 256 + 5, 280} {
		wantWrongClass(t, impl.Class{Name: "A", Pool: words[:n]})
	}
}

// Two that are alike, at each two places, whatever stands between.
func TestConstsThatAreAlike(t *testing.T) {
	for _, n := range []int{2, 3, 5, impl.MaxPool} {
		for i := range n {
			for k := range i {
				pool := manyConsts(n)
				pool[i] = pool[k]
				wantWrongClass(t, impl.Class{Name: "A", Pool: pool})
			}
		}
	}
	for _, k := range rightConsts() {
		wantClass(t, impl.Class{Name: "A", Pool: []impl.Const{k}})
		wantWrongClass(t, impl.Class{Name: "A", Pool: []impl.Const{k, k}})
		wantTurnedClass(t, false, func(c *impl.Class) { c.Pool = append(c.Pool, k, k) })
	}
}

func TestConstsThatDifferInOnePart(t *testing.T) {
	for _, pool := range [][]impl.Const{
		{intConst(1), intConst(2)}, {intConst(0), intConst(leastWord)}, {intConst(5), intConst(5 + 1<<16)}, {intConst(1), intConst(-1)},
		{classConst("a"), classConst("b")}, {classConst("a"), classConst("A")}, {classConst("a"), classConst("aa")},
		{fieldConst("a", "b"), callConst("a", "b")}, {classConst("a"), fieldConst("a", "a"), callConst("a", "a")},
		{fieldConst("a", "b"), fieldConst("a", "c")}, {fieldConst("a", "b"), fieldConst("c", "b")}, {fieldConst("a", "b"), fieldConst("b", "a")}, {fieldConst("ab", "c"), fieldConst("a", "bc")},
		{callConst("a", "b"), callConst("a", "c")}, {callConst("a", "b"), callConst("c", "b")}, {callConst("a", "b"), callConst("a", "B")}, {callConst("ab", "c"), callConst("a", "bc")},
	} {
		wantClass(t, impl.Class{Name: "A", Pool: pool})
		slices.Reverse(pool)
		wantClass(t, impl.Class{Name: "A", Pool: pool})
		wantWrongClass(t, impl.Class{Name: "A", Pool: append(pool, pool[0])})
		wantWrongClass(t, impl.Class{Name: "A", Pool: append(pool, pool[1])})
	}
}

func TestConstsThatAreNone(t *testing.T) {
	for _, k := range []impl.Const{{}, {Kind: 5, A: "a"}, {Kind: 5}, classConst(""), classConst("a1"), classConst(longestName + "x"), fieldConst("a", ""), fieldConst("", "b"), callConst("a", "b."), callConst(longestName+"x", "b"), callConst("", "")} {
		for i := range 5 {
			wantTurnedClass(t, false, func(c *impl.Class) { c.Pool = slices.Insert(c.Pool, i, k) })
		}
		wantWrongClass(t, impl.Class{Name: "A", Pool: []impl.Const{k}})
	}
	// These have no bytes of their own.
	for _, k := range []impl.Const{{Kind: -1}, {Kind: math.MaxInt}, intConst(greatestWord + 1), intConst(leastWord - 1), {Kind: impl.PlInt, N: 1, A: "a"}, {Kind: impl.PlClass, N: 1, A: "a"}, {Kind: impl.PlClass, A: "a", B: "b"}, {Kind: impl.PlField, N: -1, A: "a", B: "b"}} {
		for i := range 5 {
			c := someClass()
			c.Pool = slices.Insert(c.Pool, i, k)
			wantNotOk(t, c)
		}
	}
	// A pool's const may be of a class that is called `I`: chapter 6 wants a name of it, no more.
	for _, k := range []impl.Const{classConst("I"), fieldConst("I", "I"), callConst("I", "I")} {
		wantTurnedClass(t, true, func(c *impl.Class) { c.Pool = append(c.Pool, k) })
	}
}

func TestFieldsHowMany(t *testing.T) {
	for n := range 4 * impl.MaxFields {
		wantClassIf(t, impl.Class{Name: "A", Fields: manyFields(n)}, n <= impl.MaxFields)
		wantTurnedClass(t, n <= impl.MaxFields, func(c *impl.Class) { c.Fields = manyFields(n) })
	}
}

func TestMethodsHowMany(t *testing.T) {
	for n := range 2 * impl.MaxMethods {
		methods := manyMethods(n)
		for i := range methods {
			methods[i].Code = codeOf(1 + i)
		}
		wantClassIf(t, impl.Class{Name: "A", Methods: methods}, n <= impl.MaxMethods)
		wantTurnedClass(t, n <= impl.MaxMethods, func(c *impl.Class) { c.Methods = methods })
	}
}

// Of one Name, at each two places, whether all else is alike or not.
func TestTwoOfOneName(t *testing.T) {
	for i := range impl.MaxFields {
		for k := range i {
			fields := manyFields(impl.MaxFields)
			fields[i].Name = fields[k].Name
			fields[i].Type = "other"
			wantWrongClass(t, impl.Class{Name: "A", Fields: fields})
			fields[i] = fields[k]
			wantWrongClass(t, impl.Class{Name: "A", Fields: fields})
		}
	}
	for i := range impl.MaxMethods {
		for k := range i {
			methods := manyMethods(impl.MaxMethods)
			methods[i].Name = methods[k].Name
			wantWrongClass(t, impl.Class{Name: "A", Methods: methods})
			methods[i] = methods[k]
			wantWrongClass(t, impl.Class{Name: "A", Methods: methods})
		}
	}
	wantTurnedClass(t, false, func(c *impl.Class) { c.Fields[1].Name = c.Fields[0].Name })
	wantTurnedClass(t, false, func(c *impl.Class) { c.Methods[2].Name = c.Methods[0].Name })
}

// All but the Name may be alike, and names of different things may be one.
func TestNamesThatAreNotOfOneKind(t *testing.T) {
	same := []impl.Field{{Name: "a", Type: "I"}, {Name: "A", Type: "I"}, {Name: "aa", Type: "I"}}
	wantClass(t, impl.Class{Name: "A", Fields: same})
	wantClass(t, impl.Class{Name: "A", Methods: []impl.Method{method("a", 1, "x", "I"), method("A", 1, "x", "I"), method("aa", 1, "x", "I")}})
	wantClass(t, impl.Class{Name: "a", Super: "a", Pool: []impl.Const{callConst("a", "a")}, Fields: []impl.Field{{Name: "a", Type: "a"}}, Methods: []impl.Method{method("a", 4, "x", "a", "a", "a", "a")}})
	for i := range impl.MaxMethods {
		c := fullClass()
		c.Methods[i].Name = c.Fields[i].Name
		wantClass(t, c)
		c.Methods[i].Name = c.Name
		wantClass(t, c)
	}
	crossed := []impl.Field{{Name: "a", Type: "b"}, {Name: "b", Type: "a"}, {Name: "ab", Type: "c"}, {Name: "c", Type: "ab"}}
	wantClass(t, impl.Class{Name: "A", Fields: crossed})
}

func TestParamsAndLocals(t *testing.T) {
	right := 0
	for params := range 2 * impl.MaxParams {
		for locals := range 3 * impl.MaxLocals {
			list := slices.Repeat([]string{"I"}, params)
			is := params <= impl.MaxParams && locals > params && locals <= impl.MaxLocals
			if is {
				right++
			}
			wantClassIf(t, impl.Class{Name: "A", Methods: []impl.Method{method("f", locals, "x", "I", list...)}}, is)
			for i := range 3 {
				wantTurnedClass(t, is, func(c *impl.Class) { c.Methods[i].Params, c.Methods[i].Locals = list, locals })
			}
		}
		for _, locals := range []int{127, 128, 129, 128 + 5, 256 + 5, 1<<16 + 5, impl.MaxNum} {
			wantTurnedClass(t, false, func(c *impl.Class) {
				c.Methods[1].Params, c.Methods[1].Locals = slices.Repeat([]string{"A"}, params), locals
			})
		}
		for _, locals := range []int{-1, -5, impl.MaxNum + 1, 1<<32 + 5, 1<<33 + 4, math.MaxInt, math.MinInt, math.MinInt + 5} {
			c := someClass()
			c.Methods[1].Params, c.Methods[1].Locals = slices.Repeat([]string{"A"}, params), locals
			wantNotOk(t, c)
		}
	}
	if right != 6+5+4+3 {
		t.Errorf("%d are right", right)
	}
	for _, params := range []int{127, 128, 256, 257} {
		for _, locals := range []int{params + 1, impl.MaxLocals} {
			wantTurnedClass(t, false, func(c *impl.Class) {
				c.Methods[1].Params, c.Methods[1].Locals = slices.Repeat([]string{"A"}, params), locals
			})
		}
	}
}

func TestCodeHowLong(t *testing.T) {
	for size := range 2 * impl.MaxCode {
		is := size >= 1 && size <= impl.MaxCode
		wantClassIf(t, impl.Class{Name: "A", Methods: []impl.Method{method("f", 1, string(codeOf(size)), "I")}}, is)
		for i := range 3 {
			wantTurnedClass(t, is, func(c *impl.Class) { c.Methods[i].Code = codeOf(size) })
		}
	}
	for _, size := range []int{impl.MaxText, impl.MaxText + 1, 256, 256 + 5, 5000} {
		wantTurnedClass(t, false, func(c *impl.Class) { c.Methods[1].Code = codeOf(size) })
	}
}

// What stands in code does not count here, chapter 8 asks for it.
func TestCodeOfAnyBytes(t *testing.T) {
	for x := range 256 {
		for _, code := range [][]byte{{byte(x)}, {byte(x), byte(x)}, {0, byte(x), 255}, bytes.Repeat([]byte{byte(x)}, impl.MaxCode)} {
			wantTurnedClass(t, true, func(c *impl.Class) { c.Methods[x%3].Code = code })
		}
	}
}

// P7: cut short at each place it is none, also where the rest stands in the spare room; nor with bytes behind it.
func TestClassesCutShort(t *testing.T) {
	for _, c := range rightClasses() {
		b := rawClass(c)
		for cut := range b {
			wantNoClass(t, b[:cut:cut])
			wantNoClass(t, b[:cut])
		}
		for cut := 1; cut < len(b); cut++ {
			wantClassThere(t, b[cut:])
		}
		for x := range 256 {
			wantNoClass(t, append(bytes.Clone(b), byte(x)))
		}
		wantNoClass(t, slices.Concat(b, b))
		wantNoClass(t, append(bytes.Clone(b), 0, 0, 0))
		wantClass(t, c)
	}
}

// A byte left out or put in anywhere.
func TestClassesWithAByteLessOrMore(t *testing.T) {
	for _, c := range []impl.Class{{Name: "A"}, someClass(), fullClass()} {
		b := rawClass(c)
		for i := range b {
			wantClassThere(t, slices.Delete(bytes.Clone(b), i, i+1))
			for _, x := range []byte{0, 1, 2, 'a', 'I', 128, 255} {
				wantClassThere(t, slices.Insert(bytes.Clone(b), i, x))
			}
		}
	}
}

// Each byte of a class that is a number is below 128; the same number in more bytes is not the shortest.
func TestNumbersOfClassesThatAreNotTheShortest(t *testing.T) {
	for _, c := range []impl.Class{{Name: "A"}, {Name: "A", Methods: []impl.Method{method("f", 1, "x", "I")}}, someClass(), fullClass()} {
		b := rawClass(c)
		for i := range b {
			for _, tail := range [][]byte{{0}, {128, 0}, {128, 128, 0}, {128, 128, 128, 0}} {
				wantClassThere(t, slices.Concat(b[:i], []byte{b[i] | 128}, tail, b[i+1:]))
			}
		}
	}
	for _, s := range []string{
		"\x81\x00A\x00\x00\x00\x00", "\x01A\x80\x00\x00\x00\x00", "\x01A\x81\x00B\x00\x00\x00", "\x01A\x00\x80\x00\x00\x00", "\x01A\x00\x00\x80\x00\x00", "\x01A\x00\x00\x00\x80\x00",
		"\x01A\x00\x81\x00\x02\x01a\x00\x00", "\x01A\x00\x01\x82\x00\x01a\x00\x00", "\x01A\x00\x01\x02\x81\x00a\x00\x00",
		"\x01A\x00\x00\x81\x00\x01n\x01I\x00", "\x01A\x00\x00\x01\x81\x00n\x01I\x00", "\x01A\x00\x00\x01\x01n\x81\x00I\x00",
		"\x01A\x00\x00\x00\x81\x00\x01f\x00\x01I\x01\x01x", "\x01A\x00\x00\x00\x01\x81\x00f\x00\x01I\x01\x01x", "\x01A\x00\x00\x00\x01\x01f\x80\x00\x01I\x01\x01x",
		"\x01A\x00\x00\x00\x01\x01f\x00\x81\x00I\x01\x01x", "\x01A\x00\x00\x00\x01\x01f\x00\x01I\x81\x00\x01x", "\x01A\x00\x00\x00\x01\x01f\x00\x01I\x01\x81\x00x",
		"\x01A\x00\x00\x00\x01\x01f\x81\x00\x01B\x01I\x02\x01x", "\x01A\x00\x00\x00\x01\x01f\x01\x81\x00B\x01I\x02\x01x",
	} {
		wantNoClass(t, []byte(s))
	}
}

func TestCountsThatAreTooGreat(t *testing.T) {
	counts := [][]byte{{1}, {2}, {3}, {4}, {6}, {7}, {8}, {9}, {24}, {25}, {90}, {91}, {127}, {128, 1}, {255, 1}, {128, 2}, {255, 255, 255, 7}, {128, 128, 128, 8}, {255, 255, 255, 127}, {255, 255, 255, 255, 1}}
	heads := []string{
		"\x01A\x00", "\x01A\x00\x00", "\x01A\x00\x00\x00",
		"\x01A\x00\x00\x00\x01\x01f", "\x01A\x00\x00\x00\x01\x01f\x00\x01I\x01",
	}
	tails := []string{"", "\x00", "\x00\x00", "\x01I\x01", "\x02\x01a", "\x01n\x01I", "\x01I\x04\x01", strings.Repeat("\x01a", 50), strings.Repeat("\x02\x01a", 30)}
	for _, head := range heads {
		for _, n := range counts {
			for _, tail := range tails {
				wantClassThere(t, slices.Concat([]byte(head), n, []byte(tail)))
			}
		}
	}
	for _, s := range []string{
		"\x01A\x00\x01\x00\x00", "\x01A\x00\x00\x01\x00", "\x01A\x00\x00\x00\x01", "\x01A\x00\xff\xff\xff\x07\x00\x00", "\x01A\x00\x00\xff\xff\xff\x07\x00", "\x01A\x00\x00\x00\xff\xff\xff\x07",
		"\x01A\x00\x00\x00\x01\x01f\x01\x01I\x02\x01x", "\x01A\x00\x00\x00\x01\x01f\x00\x01I\x01\x02x", "\x01A\x00\x00\x00\x01\x01f\x00\x01I\x01\x00", "\x01A\x00\x00\x00\x01\x01f\x00\x01I\x01\xff\xff\xff\x07x",
		"\x02A\x00\x00\x00\x00", "\x09AAAAAAAAA\x00\x00\x00\x00", "\x00\x00\x00\x00\x00", "\x01I\x00\x00\x00\x00", "\x01A\x01I\x00\x00\x00",
	} {
		wantNoClass(t, []byte(s))
	}
	for _, x := range []byte{0, 1, 2, 8, 'a', 128, 255} {
		wantNoClass(t, bytes.Repeat([]byte{x}, 5000))
	}
}

// Whatever stands at one byte: what is read is just what is written so.
func TestClassOfIsJustWhatClassBytesMakes(t *testing.T) {
	t.Parallel()
	read := 0
	for _, c := range []impl.Class{{Name: "A"}, {Name: "A", Super: "B", Pool: manyConsts(8)}, {Name: "Cell", Fields: manyFields(4)}, {Name: "A", Methods: manyMethods(4)}, someClass()} {
		whole := rawClass(c)
		for i := range whole {
			for x := range 256 {
				b := bytes.Clone(whole)
				b[i] = byte(x)
				if wantClassThere(t, b) {
					read++
				}
			}
		}
	}
	if read < 10000 {
		t.Errorf("%d read", read)
	}
}

func TestClassOfOfAnyBytes(t *testing.T) {
	t.Parallel()
	const kinds = "\x00\x01\x02\x03\x05\x80IaB"
	read := 0
	for i := range 9 * 9 * 9 * 9 * 9 {
		var b []byte
		for n, k := i, 0; k < 5; k++ {
			b = append(b, kinds[n%9])
			n /= 9
		}
		for _, head := range []string{"", "\x01A\x00", "\x01A\x00\x01\x02", "\x01A\x00\x00", "\x01A\x01B\x00\x00\x01\x01f", "\x01A\x00\x00\x00\x01\x01f\x00\x01I"} {
			if wantClassThere(t, append([]byte(head), b...)) {
				read++
			}
		}
	}
	if read < 100 {
		t.Errorf("%d read", read)
	}
}

// Two classes that are not the same have bytes that are not, and neither begins with the other's.
func TestClassBytesTellApart(t *testing.T) {
	list := rightClasses()
	for i, a := range list {
		for _, b := range list[:i] {
			first, second := impl.ClassBytes(a), impl.ClassBytes(b)
			if !sameClass(a, b) && (bytes.HasPrefix(first, second) || bytes.HasPrefix(second, first)) {
				t.Errorf("ClassBytes(%+v) and ClassBytes(%+v) begin alike", a, b)
			}
		}
	}
}

// P33: what is far too much is answered, too.
func TestClassesThatAreFarTooGreat(t *testing.T) {
	const many = 1 << 20
	text := strings.Repeat("a", many)
	for _, c := range []impl.Class{
		{Name: text}, {Name: "A", Super: text}, {Name: "A", Pool: make([]impl.Const, many)}, {Name: "A", Fields: make([]impl.Field, many)}, {Name: "A", Methods: make([]impl.Method, many)},
		{Name: "A", Pool: slices.Repeat([]impl.Const{intConst(1)}, many)}, {Name: "A", Fields: []impl.Field{{Name: text, Type: "I"}}}, {Name: "A", Fields: []impl.Field{{Name: "n", Type: text}}},
		{Name: "A", Methods: []impl.Method{method("f", 1, text, "I")}}, {Name: "A", Methods: []impl.Method{method("f", 1, "x", text)}}, {Name: "A", Methods: []impl.Method{method(text, 1, "x", "I")}},
		{Name: "A", Methods: []impl.Method{method("f", many+1, "x", "I", make([]string, many)...)}}, {Name: "A", Pool: []impl.Const{classConst(text)}},
	} {
		if impl.ClassOk(c) || len(impl.ClassBytes(c)) != 0 {
			t.Errorf("%.20s.. is right", c.Name)
		}
	}
	wantNoClass(t, slices.Concat(rawClass(someClass()), make([]byte, many)))
}

// classesForMemory: right and wrong ones, of which nothing may be written into.
func classesForMemory() []impl.Class {
	list := rightClasses()
	for _, turn := range []func(*impl.Class){
		func(c *impl.Class) { c.Name = "I" }, func(c *impl.Class) { c.Super = "a1" },
		func(c *impl.Class) { c.Pool[2] = c.Pool[1] }, func(c *impl.Class) { c.Pool[3].N = 7 }, func(c *impl.Class) { c.Pool = manyConsts(impl.MaxPool + 1) },
		func(c *impl.Class) { c.Fields[1] = c.Fields[0] }, func(c *impl.Class) { c.Fields[1].Type = "" }, func(c *impl.Class) { c.Fields = manyFields(impl.MaxFields + 1) },
		func(c *impl.Class) { c.Methods[2] = c.Methods[0] }, func(c *impl.Class) { c.Methods[2].Code = nil }, func(c *impl.Class) { c.Methods[2].Locals = 3 }, func(c *impl.Class) { c.Methods = manyMethods(impl.MaxMethods + 1) },
		func(c *impl.Class) { c.Methods[1].Params[1] = "." }, func(c *impl.Class) { c.Methods[1].Code = codeOf(impl.MaxCode + 1) },
	} {
		c := someClass()
		turn(&c)
		list = append(list, c)
	}
	return list
}

// roomyClass has spare room behind each of its lists, those of its methods among them, and wholeClass goes to the end of it.
func roomyClass(c impl.Class) impl.Class {
	c = cloneClass(c)
	c.Pool, _ = roomy(c.Pool, intConst(77))
	c.Fields, _ = roomy(c.Fields, impl.Field{Name: "spare", Type: "spare"})
	c.Methods, _ = roomy(c.Methods, method("spare", 77, "spare", "spare", "spare"))
	for i, m := range c.Methods {
		c.Methods[i].Params, _ = roomy(m.Params, "spare")
		c.Methods[i].Code, _ = roomy(m.Code, 77)
	}
	return c
}

func wholeClass(c impl.Class) impl.Class {
	c.Pool, c.Fields, c.Methods = c.Pool[:cap(c.Pool)], c.Fields[:cap(c.Fields)], slices.Clone(c.Methods[:cap(c.Methods)])
	for i, m := range c.Methods {
		c.Methods[i].Params, c.Methods[i].Code = m.Params[:cap(m.Params)], m.Code[:cap(m.Code)]
	}
	return c
}

// P33: neither a class' lists, nor those of its methods, nor the bytes, nor the spare room behind them are written.
func TestClassesWriteNothing(t *testing.T) {
	for _, c := range classesForMemory() {
		given := roomyClass(c)
		were := cloneClass(wholeClass(given))
		impl.ClassOk(given)
		impl.ClassBytes(given)
		if !sameClass(wholeClass(given), were) {
			t.Fatalf("%+v is written into", c)
		}
		if !sameClass(given, c) {
			t.Fatalf("%+v is not as it was", c)
		}
		b, whole := roomy(rawClass(c), 9)
		bytesWere := bytes.Clone(whole)
		for end := range len(b) + 1 {
			impl.ClassOf(b[:end])
		}
		if !bytes.Equal(whole, bytesWere) {
			t.Fatalf("the bytes of %+v are written into", c)
		}
	}
}

// spoilList writes over one of a class' lists, and tells whether there is one of that number.
func spoilList(c impl.Class, number int) bool {
	switch {
	case number == 0:
		spoilAll(c.Pool, intConst(55))
	case number == 1:
		spoilAll(c.Fields, impl.Field{Name: "spoilt", Type: "spoilt"})
	case number < 2+len(c.Methods):
		spoilAll(c.Methods[number-2].Params, "spoilt")
	case number < 2+2*len(c.Methods):
		spoilAll(c.Methods[number-2-len(c.Methods)].Code, 55)
	default:
		return false
	}
	return true
}

// P33: no two lists of one answer share any memory: where one is written over, all others are as they were.
func TestListsOfOneClassAreApart(t *testing.T) {
	for _, c := range rightClasses() {
		b := rawClass(c)
		for number := 0; ; number++ {
			got, _ := impl.ClassOf(b)
			want := cloneClass(c)
			if !spoilList(got, number) {
				break
			}
			spoilList(want, number)
			if !sameClass(got, want) {
				t.Fatalf("list %d of %+v shares memory with another one", number, c)
			}
		}
		got, _ := impl.ClassOf(b)
		methods := slices.Clone(got.Methods)
		spoilAll(got.Methods, impl.Method{Name: "spoilt"})
		got.Methods = methods
		if !sameClass(got, c) {
			t.Fatalf("Methods of %+v share memory with another list", c)
		}
	}
}

// P33: an answer shares no memory with an argument, nor with another answer.
func TestClassesAreNewMemory(t *testing.T) {
	for _, c := range rightClasses() {
		given := cloneClass(c)
		first, second := impl.ClassBytes(given), impl.ClassBytes(given)
		spoilAll(first, 77)
		if !bytes.Equal(second, rawClass(c)) || !sameClass(given, c) {
			t.Fatalf("ClassBytes(%+v) shares memory", c)
		}
		for number := 0; spoilList(given, number); number++ {
		}
		if !bytes.Equal(second, rawClass(c)) {
			t.Fatalf("ClassBytes(%+v) shares memory with the class", c)
		}
		got, _ := impl.ClassOf(second)
		again, _ := impl.ClassOf(second)
		for number := 0; spoilList(got, number); number++ {
		}
		spoilAll(got.Methods, impl.Method{Name: "spoilt"})
		if !bytes.Equal(second, rawClass(c)) || !sameClass(again, c) {
			t.Fatalf("ClassOf the bytes of %+v shares memory", c)
		}
		spoilAll(second, 77)
		if !sameClass(again, c) {
			t.Fatalf("%+v shares memory with the bytes that it was read from", c)
		}
	}
}

// Whatever was asked ahead of it, right or wrong: the answer is the same.
func TestClassesKeepNothing(t *testing.T) {
	list := classesForMemory()
	var were []string
	tell := func(c impl.Class) string {
		b := rawClass(c)
		got, ok := impl.ClassOf(b)
		_, cut := impl.ClassOf(b[:len(b)/2])
		return fmt.Sprintf("%v %q %+v %v %v", impl.ClassOk(c), impl.ClassBytes(c), got, ok, cut)
	}
	for _, c := range list {
		were = append(were, tell(c))
	}
	for _, step := range []int{1, 7, 11, len(list) - 1} {
		for i := range list {
			at := i * step % len(list)
			if now := tell(list[at]); now != were[at] {
				t.Fatalf("%+v: now %s, ahead of it %s", list[at], now, were[at])
			}
		}
	}
	for _, c := range rightClasses() {
		impl.ClassOf([]byte("\x04Left\x04Over\x01\x02\x04Left\x01\x01n\x01I\x01\x03run\x01\x01I\x01I\x02\x05\x13"))
		impl.ClassOk(impl.Class{Name: "A", Fields: manyFields(impl.MaxFields + 1)})
		wantClass(t, c)
	}
}
