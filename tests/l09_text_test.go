package tests

import (
	"fmt"
	"math"
	"slices"
	"strconv"
	"strings"
	"sync"
	"testing"
	"unsafe"

	"loop.example/g00283/impl"
)

// wordsOfOps: what people write, by op; nothing at 0, which is none.
var wordsOfOps = []string{
	"", "push", "const", "load", "store", "add", "sub", "mul", "null", "new", "get", "put", "call",
	"zero", "goto", "same", "enter", "exit", "print", "return", "start", "join", "pop", "dup", "less",
}

// kindsOfOps: the ops that refer to a const, and the kind of it.
var kindsOfOps = map[int]int{
	impl.OpConst: impl.PlInt, impl.OpNew: impl.PlClass, impl.OpGet: impl.PlField, impl.OpPut: impl.PlField, impl.OpCall: impl.PlCall,
}

// rawLine writes a place of code down without the program; it is false where there is no text of it.
func rawLine(pool []impl.Const, x impl.Ins) (string, bool) {
	if x.Op < 1 || x.Op > 24 {
		return "", false
	}
	word := wordsOfOps[x.Op]
	if _, has := numberedOps[x.Op]; !has {
		return word, true
	}
	kind, refers := kindsOfOps[x.Op]
	if !refers {
		return fmt.Sprintf("%s %d", word, x.N), true
	}
	if x.N < 0 || x.N >= len(pool) || pool[x.N].Kind != kind {
		return "", false
	}
	k := pool[x.N]
	switch kind {
	case impl.PlInt:
		return fmt.Sprintf("%s %d", word, k.N), true
	case impl.PlClass:
		return fmt.Sprintf("%s %s", word, k.A), true
	}
	return fmt.Sprintf("%s %s.%s", word, k.A, k.B), true
}

// rawClassText writes a class down without the program; it is false where a code is none, or a place has no text.
func rawClassText(c impl.Class) (string, bool) {
	text := "class " + c.Name
	if c.Super != "" {
		text += " " + c.Super
	}
	text += "\n"
	for _, f := range c.Fields {
		text += "field " + f.Name + " " + f.Type + "\n"
	}
	for _, m := range c.Methods {
		text += "method " + m.Name + " " + m.Result + " " + fmt.Sprint(m.Locals)
		for _, p := range m.Params {
			text += " " + p
		}
		text += "\n"
		list, ok := codeThere(m.Code)
		if !ok {
			return "", false
		}
		for _, x := range list {
			line, ok := rawLine(c.Pool, x)
			if !ok {
				return "", false
			}
			text += line + "\n"
		}
	}
	return text, true
}

func isName(s string) bool {
	return len(s) >= 1 && len(s) <= 8 && strings.Trim(s, someLetters) == ""
}

// numberThere reads digits as they are written, and no others of that number.
func numberThere(s string) (int, bool) {
	n, err := strconv.ParseInt(s, 10, 64)
	return int(n), err == nil && strconv.FormatInt(n, 10) == s
}

// A textBook reads a class line by line, without the program; what was wrong anywhere stays so.
type textBook struct {
	lines []string
	c     impl.Class
	wrong bool
}

// words has those of the next line, where it begins with that word, and at least that many of them.
func (x *textBook) words(first string, least int) ([]string, bool) {
	if len(x.lines) == 0 {
		return nil, false
	}
	words := strings.Split(x.lines[0], " ")
	if words[0] != first {
		return nil, false
	}
	x.lines = x.lines[1:]
	if len(words) < least {
		x.wrong = true
		return nil, false
	}
	return words[1:], true
}

func (x *textBook) names(words []string) {
	for _, s := range words {
		x.wrong = x.wrong || !isName(s)
	}
}

func (x *textBook) constant(kind int, word string) int {
	k := impl.Const{Kind: kind}
	switch kind {
	case impl.PlInt:
		n, ok := numberThere(word)
		x.wrong = x.wrong || !ok || n < leastWord || n > greatestWord
		k.N = n
	case impl.PlClass:
		x.names([]string{word})
		k.A = word
	default:
		a, b, _ := strings.Cut(word, ".")
		x.names([]string{a, b})
		k.A, k.B = a, b
	}
	for i, other := range x.c.Pool {
		if other == k {
			return i
		}
	}
	x.c.Pool = append(x.c.Pool, k)
	return len(x.c.Pool) - 1
}

// place reads one of code, if there is one.
func (x *textBook) place() (impl.Ins, bool) {
	for op := 1; op <= 24 && !x.wrong; op++ {
		words, is := x.words(wordsOfOps[op], 1)
		if !is {
			continue
		}
		_, has := numberedOps[op]
		if has != (len(words) == 1) || len(words) > 1 {
			x.wrong = true
		} else if kind, refers := kindsOfOps[op]; refers {
			return ins(op, x.constant(kind, words[0])), true
		} else if has {
			n, ok := numberThere(words[0])
			x.wrong = x.wrong || !ok
			return ins(op, n), true
		}
		return bare(op), true
	}
	return impl.Ins{}, false
}

func (x *textBook) method(words []string) {
	x.names(words[:2])
	x.names(words[3:])
	locals, ok := numberThere(words[2])
	m := impl.Method{Name: words[0], Result: words[1], Locals: locals, Params: slices.Clone(words[3:])}
	var list []impl.Ins
	for y, is := x.place(); is; y, is = x.place() {
		list = append(list, y)
	}
	if !ok || !codeRight(list) || len(m.Params) > 3 || locals <= len(m.Params) || locals > 6 {
		x.wrong = true
		return
	}
	for _, other := range x.c.Methods {
		x.wrong = x.wrong || other.Name == m.Name
	}
	m.Code = rawCode(list)
	x.c.Methods = append(x.c.Methods, m)
}

func (x *textBook) class() {
	words, is := x.words("class", 2)
	if !is || len(words) > 2 {
		x.wrong = true
		return
	}
	x.names(words)
	x.wrong = x.wrong || slices.Contains(words, "I")
	x.c.Name, x.c.Super = words[0], strings.Join(words[1:], "")
	for words, is := x.words("field", 3); is; words, is = x.words("field", 3) {
		x.names(words)
		x.wrong = x.wrong || len(words) > 2 || slices.ContainsFunc(x.c.Fields, func(f impl.Field) bool { return f.Name == words[0] })
		x.c.Fields = append(x.c.Fields, impl.Field{Name: words[0], Type: words[1]})
	}
	for words, is := x.words("method", 4); is && !x.wrong; words, is = x.words("method", 4) {
		x.method(words)
	}
}

func textThere(s string) (impl.Class, bool) {
	lines := strings.Split(s, "\n")
	x := textBook{lines: lines[:len(lines)-1]}
	x.class()
	if x.wrong || len(x.lines) > 0 || lines[len(lines)-1] != "" || len(x.c.Pool) > 24 || len(x.c.Fields) > 8 || len(x.c.Methods) > 6 {
		return impl.Class{}, false
	}
	return x.c, true
}

func setThere(s string) ([]impl.Class, bool) {
	parts := strings.Split("\n"+s, "\nclass ")
	if parts[0] != "" || len(parts) == 1 || len(parts) > 7 {
		return nil, false
	}
	var list []impl.Class
	for i, part := range parts[1:] {
		if i < len(parts)-2 {
			part += "\n"
		}
		c, ok := textThere("class " + part)
		if !ok {
			return nil, false
		}
		list = append(list, c)
	}
	return list, true
}

func sameSet(a, b []impl.Class) bool { return slices.EqualFunc(a, b, sameClass) }

// wantNoText: beside the false stands the zero value, nothing of what was read ahead of the fault.
func wantNoText(t *testing.T, s string) {
	t.Helper()
	if c, ok := impl.ClassRead(s); ok || !sameClass(c, impl.Class{}) {
		t.Fatalf("ClassRead(%.300q) = %+v, %v; want none", s, c, ok)
	}
}

func wantNoSet(t *testing.T, s string) {
	t.Helper()
	if list, ok := impl.SetRead(s); ok || len(list) != 0 {
		t.Fatalf("SetRead(%.300q) = %+v, %v; want none", s, list, ok)
	}
}

// wantSetThere tells whether there was one.
func wantSetThere(t *testing.T, s string) bool {
	t.Helper()
	want, is := setThere(s)
	if !is {
		wantNoSet(t, s)
		return false
	}
	if got, ok := impl.SetRead(s); !ok || !sameSet(got, want) {
		t.Fatalf("SetRead(%.300q) = %+v, %v; want %+v", s, got, ok, want)
	}
	return true
}

// wantTextThere tells whether there was one; what is one class is a set of it.
func wantTextThere(t *testing.T, s string) bool {
	t.Helper()
	wantSetThere(t, s)
	want, is := textThere(s)
	if !is {
		wantNoText(t, s)
		return false
	}
	if got, ok := impl.ClassRead(s); !ok || !sameClass(got, want) {
		t.Fatalf("ClassRead(%.300q) = %+v, %v; want %+v", s, got, ok, want)
	}
	if got := impl.ClassText(want); got != s {
		t.Fatalf("ClassText(%+v) = %q, want %q", want, got, s)
	}
	return true
}

func wantClassText(t *testing.T, s string) {
	t.Helper()
	if !wantTextThere(t, s) {
		t.Fatalf("%q is none", s)
	}
}

func wantTextIf(t *testing.T, s string, right bool) {
	t.Helper()
	if wantTextThere(t, s) != right {
		t.Fatalf("%.300q: a test asks for %v", s, right)
	}
}

func wantNoClassText(t *testing.T, c impl.Class) {
	t.Helper()
	if s := impl.ClassText(c); s != "" {
		t.Fatalf("ClassText(%+v) = %q", c, s)
	}
}

const eachOpText = "class Main Base\nfield n I\nfield next Main\n" +
	"method run I 6\npush -128\nconst -2147483648\nload 5\nstore 0\nadd\nsub\nmul\nnull\nnew Cell\nget Cell.n\nput Main.next\ncall Main.put\nzero 24\ngoto 0\nsame\nenter\nexit\nprint\nreturn\nstart\njoin\npop\ndup\nless\nreturn\n" +
	"method put Main 4 I Cell\nload 0\nload 1\nput Main.n\nconst 7\nprint\nload 0\nreturn\n" +
	"method n I 6 I I I\npush 0\ngoto 1\n"

func eachOpClass() impl.Class {
	return impl.Class{
		Name: "Main", Super: "Base",
		Pool:   []impl.Const{intConst(leastWord), classConst("Cell"), fieldConst("Cell", "n"), fieldConst("Main", "next"), callConst("Main", "put"), fieldConst("Main", "n"), intConst(7)},
		Fields: []impl.Field{{Name: "n", Type: "I"}, {Name: "next", Type: "Main"}},
		Methods: []impl.Method{
			method("run", 6, "\x01\x00\x02\x00\x03\x05\x04\x00\x05\x06\x07\x08\x09\x01\x0a\x02\x0b\x03\x0c\x04\x0d\x22\x0e\x00\x0f\x10\x11\x12\x13\x14\x15\x16\x17\x18\x13", "I"),
			method("put", 4, "\x03\x00\x03\x01\x0b\x05\x02\x06\x12\x03\x00\x13", "Main", "I", "Cell"),
			method("n", 6, "\x01\x80\x0e\x02", "I", "I", "I", "I"),
		},
	}
}

// fullText is as long as a class' text can be: all names have MaxName bytes, all lists are full, all lines of code are the longest ones.
func fullText() string {
	name := func(i int) string { return "Longest" + someLetters[i:i+1] }
	text := "class " + name(0) + " " + name(1) + "\n"
	for i := range impl.MaxFields {
		text += "field " + name(i) + " " + name(i+1) + "\n"
	}
	at := 0
	for i := range impl.MaxMethods {
		text += "method " + name(i) + " " + name(i+1) + " 6 " + name(i+2) + " " + name(i+3) + " " + name(i+4) + "\n"
		for range impl.MaxCode/2 - 1 {
			text += "call " + name(at%impl.MaxPool) + "." + name(at*7%impl.MaxPool) + "\n"
			at++
		}
		text += "return\nreturn\n"
	}
	return text
}

// poolText: code that refers to n consts, no two alike, of all kinds by turns.
func poolText(n int) string {
	text := "class P\nmethod run I 1\n"
	for i, k := range manyConsts(n) {
		line, _ := rawLine([]impl.Const{k}, ins([]int{impl.OpConst, impl.OpNew, impl.OpPut, impl.OpCall}[i%4], 0))
		text += line + "\n"
	}
	return text + "return\n"
}

func rightTexts() []string {
	list := []string{
		"class A\n", "class Kid Main\n", "class a Z\n", "class X X\n", "class II i\n", "class " + longestName + " " + longestName + "\n",
		"class Cell\nfield n I\n", "class Cell Base\nfield n I\nfield next Cell\nfield I A\n",
		"class A\nmethod f I 1\nreturn\n", "class A B\nmethod I B 6\ngoto 0\nmethod f A 2 I\nreturn\nmethod g I 5 A I B\ngoto 1\ngoto 0\n",
		"class Main\nfield n I\nmethod run I 2\npush 7\nprint\npush 0\nreturn\n",
		"class class field\nfield field method\nfield method push\nmethod method class 2 return\nnew class\nget field.method\ncall push.add\nput field.method\nreturn\n",
		eachOpText, fullText(),
	}
	for n := range impl.MaxPool + 1 {
		list = append(list, poolText(n))
	}
	return list
}

func TestTextConstants(t *testing.T) {
	if impl.MaxClasses != 6 {
		t.Error("limit")
	}
}

func TestInsTextOfEachOp(t *testing.T) {
	c := impl.Class{Pool: []impl.Const{intConst(-5), classConst("Cell"), fieldConst("Cell", "n"), callConst("Main", "run")}}
	for _, x := range []struct {
		op, n int
		want  string
	}{
		{impl.OpPush, 7, "push 7"}, {impl.OpPush, -128, "push -128"}, {impl.OpPush, 0, "push 0"}, {impl.OpConst, 0, "const -5"}, {impl.OpLoad, 1, "load 1"}, {impl.OpStore, 2, "store 2"},
		{impl.OpAdd, 0, "add"}, {impl.OpSub, 0, "sub"}, {impl.OpMul, 0, "mul"}, {impl.OpNull, 0, "null"}, {impl.OpNew, 1, "new Cell"},
		{impl.OpGet, 2, "get Cell.n"}, {impl.OpPut, 2, "put Cell.n"}, {impl.OpCall, 3, "call Main.run"}, {impl.OpZero, 89, "zero 89"}, {impl.OpGoto, 0, "goto 0"},
		{impl.OpSame, 0, "same"}, {impl.OpEnter, 0, "enter"}, {impl.OpExit, 0, "exit"}, {impl.OpPrint, 0, "print"}, {impl.OpReturn, 0, "return"},
		{impl.OpStart, 0, "start"}, {impl.OpJoin, 0, "join"}, {impl.OpPop, 0, "pop"}, {impl.OpDup, 0, "dup"}, {impl.OpLess, 0, "less"},
	} {
		if got := impl.InsText(c, ins(x.op, x.n)); got != x.want {
			t.Errorf("InsText of %d, %d = %q, want %q", x.op, x.n, got, x.want)
		}
	}
}

// wantLine asks for a place's text against the test's own.
func wantLine(t *testing.T, c impl.Class, x impl.Ins) string {
	t.Helper()
	want, _ := rawLine(c.Pool, x)
	if got := impl.InsText(c, x); got != want {
		t.Fatalf("InsText of the pool %v, %v = %q, want %q", c.Pool, x, got, want)
	}
	return want
}

func TestInsTextOfOpsThatAreNone(t *testing.T) {
	for _, op := range opsToAsk() {
		for _, n := range []int{0, 1, 2, 3, -1, math.MaxInt, math.MinInt} {
			for _, c := range []impl.Class{{}, someClass(), fullClass()} {
				text := wantLine(t, c, ins(op, n))
				if text != "" && (op < impl.OpPush || op > impl.OpLess) {
					t.Fatalf("op %d has the text %q", op, text)
				}
			}
		}
	}
}

// The N of an op that refers to no const is told as it is, of one that has none it does not count.
func TestInsTextOfNumbers(t *testing.T) {
	for _, n := range append(numbersToAsk(), math.MaxInt, math.MinInt) {
		for op := 1; op <= 24; op++ {
			for _, c := range []impl.Class{{}, {Name: "I"}, someClass(), fullClass()} {
				wantLine(t, c, ins(op, n))
			}
		}
		for _, op := range []int{impl.OpPush, impl.OpLoad, impl.OpStore, impl.OpZero, impl.OpGoto} {
			if got := impl.InsText(impl.Class{}, ins(op, n)); got != wordsOfOps[op]+" "+strconv.Itoa(n) {
				t.Fatalf("InsText of %d, %d = %q", op, n, got)
			}
		}
	}
	if impl.InsText(impl.Class{}, push(math.MinInt)) != "push -9223372036854775808" || impl.InsText(impl.Class{}, jump(math.MaxInt)) != "goto 9223372036854775807" {
		t.Error("the greatest and the least number")
	}
}

// A const of each kind under each op that refers to one, at each place of pools of each size.
func TestInsTextOfConsts(t *testing.T) {
	told := 0
	for n := range impl.MaxPool + 1 {
		c := impl.Class{Name: "A", Pool: manyConsts(n)}
		for op := range kindsOfOps {
			for _, at := range []int{-1, 0, 1, 2, 3, n - 1, n, n + 1, impl.MaxPool - 1, impl.MaxPool, 256, 1 << 32, math.MaxInt, math.MinInt} {
				if wantLine(t, c, ins(op, at)) != "" {
					told++
				}
			}
		}
	}
	if told < 100 {
		t.Errorf("%d told", told)
	}
	for _, k := range append(rightConsts(), impl.Const{}, impl.Const{Kind: 5, A: "a", B: "b"}, impl.Const{Kind: -1, N: 5}) {
		for op := range kindsOfOps {
			wantLine(t, impl.Class{Pool: []impl.Const{k}}, ins(op, 0))
			wantLine(t, impl.Class{Pool: []impl.Const{classConst("Other"), k, intConst(1)}}, ins(op, 1))
			wantLine(t, impl.Class{Pool: []impl.Const{k, k}}, ins(op, 1))
			if text := wantLine(t, impl.Class{Pool: []impl.Const{k}}, ins(op, 1)) + wantLine(t, impl.Class{Pool: []impl.Const{k}}, ins(op, -1)); text != "" {
				t.Fatalf("%q stands where nothing is", text)
			}
		}
	}
}

// What stands in the spare room behind a pool is not in it.
func TestInsTextOfSpareRoom(t *testing.T) {
	pool := manyConsts(8)
	for n := range pool {
		for op := range kindsOfOps {
			for at := range 9 {
				wantLine(t, impl.Class{Pool: pool[:n]}, ins(op, at))
			}
		}
	}
}

func TestClassText(t *testing.T) {
	for _, x := range []struct {
		c    impl.Class
		want string
	}{
		{impl.Class{Name: "A"}, "class A\n"},
		{impl.Class{Name: "Kid", Super: "Main"}, "class Kid Main\n"},
		{impl.Class{Name: "A", Fields: []impl.Field{{Name: "n", Type: "I"}, {Name: "m", Type: "Cell"}}}, "class A\nfield n I\nfield m Cell\n"},
		{impl.Class{Name: "A", Methods: []impl.Method{method("f", 1, "\x13", "I")}}, "class A\nmethod f I 1\nreturn\n"},
		{impl.Class{Name: "A", Super: "B", Methods: []impl.Method{method("g", 5, "\x13", "B", "I", "Cell", "A"), method("f", 2, "\x0e\x00", "I", "A")}},
			"class A B\nmethod g B 5 I Cell A\nreturn\nmethod f I 2 A\ngoto 0\n"},
		{impl.Class{Name: "A", Pool: []impl.Const{fieldConst("A", "n")}, Methods: []impl.Method{method("f", 1, "\x03\x00\x0a\x00\x13", "I")}},
			"class A\nmethod f I 1\nload 0\nget A.n\nreturn\n"},
		{eachOpClass(), eachOpText},
	} {
		if got := impl.ClassText(x.c); got != x.want {
			t.Errorf("ClassText(%+v) = %q, want %q", x.c, got, x.want)
		}
		if got, ok := impl.ClassRead(x.want); !ok || !sameClass(got, x.c) {
			t.Errorf("ClassRead(%q) = %+v, %v", x.want, got, ok)
		}
		if got, ok := impl.SetRead(x.want); !ok || !sameSet(got, []impl.Class{x.c}) {
			t.Errorf("SetRead(%q) = %+v, %v", x.want, got, ok)
		}
	}
}

// P9: a class is read from its text as it was.
func TestTextsAreWrittenAndRead(t *testing.T) {
	for _, s := range rightTexts() {
		wantClassText(t, s)
	}
	if got, _ := textThere(eachOpText); !sameClass(got, eachOpClass()) {
		t.Errorf("%+v", got)
	}
	full, _ := textThere(fullText())
	if len(full.Pool) != impl.MaxPool || len(full.Methods) != impl.MaxMethods || len(full.Methods[0].Code) != impl.MaxCode {
		t.Error("the longest text is not so")
	}
}

// codedClass has one method for each code.
func codedClass(pool []impl.Const, codes ...[]impl.Ins) impl.Class {
	c := impl.Class{Name: "A", Pool: pool}
	for i, list := range codes {
		c.Methods = append(c.Methods, method("m"+someLetters[i:i+1], 6, string(rawCode(list)), "I"))
	}
	return c
}

// Each code of chapter 8 that is right, where its pool has what it refers to.
func TestCodesAsText(t *testing.T) {
	written := 0
	for _, list := range rightCodes() {
		var pool []impl.Const
		list = slices.Clone(list)
		for i, x := range list {
			kind, refers := kindsOfOps[x.Op]
			if !refers {
				continue
			}
			k := []impl.Const{intConst(x.N), classConst("C" + someLetters[x.N:x.N+1]), fieldConst("C", someLetters[x.N:x.N+1]), callConst("C", someLetters[x.N:x.N+1])}[kind-1]
			list[i].N = slices.Index(pool, k)
			if list[i].N < 0 {
				list[i].N = len(pool)
				pool = append(pool, k)
			}
		}
		if len(pool) > impl.MaxPool {
			continue
		}
		c := codedClass(pool, list)
		s, _ := rawClassText(c)
		wantClassText(t, s)
		if got, _ := impl.ClassRead(s); !sameClass(got, c) {
			t.Fatalf("ClassRead(%q) = %+v, want %+v", s, got, c)
		}
		written++
	}
	if written < 100 {
		t.Errorf("%d written", written)
	}
}

// What the code does not refer to is not told, and the pool that is read is in the order of the code.
func TestPoolsThatAreNotTheCodes(t *testing.T) {
	want := []impl.Const{callConst("A", "ma"), intConst(5), fieldConst("A", "n"), classConst("A")}
	code := func(pool []impl.Const) [][]impl.Ins {
		at := func(op, i int) impl.Ins { return ins(op, slices.Index(pool, want[i])) }
		return [][]impl.Ins{{at(impl.OpCall, 0), at(impl.OpConst, 1), at(impl.OpCall, 0), ret()}, {at(impl.OpPut, 2), at(impl.OpConst, 1), at(impl.OpGet, 2), at(impl.OpNew, 3), ret()}}
	}
	right := codedClass(want, code(want)...)
	text := "class A\nmethod ma I 6\ncall A.ma\nconst 5\ncall A.ma\nreturn\nmethod mb I 6\nput A.n\nconst 5\nget A.n\nnew A\nreturn\n"
	wantClassText(t, text)
	for _, pool := range [][]impl.Const{
		want,
		{want[3], want[2], want[1], want[0]}, {want[1], want[0], want[2], want[3]}, {want[0], want[2], want[1], want[3]},
		{want[0], want[1], want[2], want[3], intConst(6)}, {classConst("B"), want[0], want[1], want[2], want[3]}, {want[0], want[1], fieldConst("A", "ma"), want[2], callConst("A", "n"), want[3]},
		append(slices.Clone(manyConsts(20)), want...),
	} {
		c := codedClass(pool, code(pool)...)
		if got := impl.ClassText(c); got != text {
			t.Fatalf("ClassText(%+v) = %q, want %q", c, got, text)
		}
		got, ok := impl.ClassRead(impl.ClassText(c))
		if !ok || !sameClass(got, right) {
			t.Fatalf("ClassRead(ClassText(%+v)) = %+v", c, got)
		}
	}
	for i := range want {
		twice := append(slices.Clone(want), want[i])
		wantNoClassText(t, codedClass(twice, code(twice)...))
	}
	for _, k := range rightConsts() {
		c := impl.Class{Name: "A", Pool: []impl.Const{k}}
		if got := impl.ClassText(c); got != "class A\n" {
			t.Fatalf("ClassText(%+v) = %q", c, got)
		}
		wantNoClassText(t, impl.Class{Name: "A", Pool: []impl.Const{k, k}})
	}
}

// What one op refers to is not what another one does, where the kinds of their consts are not one.
func TestPoolsThatAreRead(t *testing.T) {
	for _, x := range []struct {
		lines string
		want  []impl.Const
	}{
		{"", nil},
		{"push 5\nload 3\nstore 2\nzero 0\n", nil},
		{"const 5\n", []impl.Const{intConst(5)}},
		{"const 5\nconst 5\nconst -5\nconst 5\n", []impl.Const{intConst(5), intConst(-5)}},
		{"const 0\npush 0\n", []impl.Const{intConst(0)}},
		{"new A\nnew B\nnew A\n", []impl.Const{classConst("A"), classConst("B")}},
		{"new B\nnew A\nnew a\n", []impl.Const{classConst("B"), classConst("A"), classConst("a")}},
		{"get A.b\nput A.b\ncall A.b\nget A.b\n", []impl.Const{fieldConst("A", "b"), callConst("A", "b")}},
		{"call A.b\nput A.b\nget A.b\ncall A.b\n", []impl.Const{callConst("A", "b"), fieldConst("A", "b")}},
		{"get ab.c\nget a.bc\nget ab.c\nget c.ab\n", []impl.Const{fieldConst("ab", "c"), fieldConst("a", "bc"), fieldConst("c", "ab")}},
		{"new I\nget I.I\ncall I.I\n", []impl.Const{classConst("I"), fieldConst("I", "I"), callConst("I", "I")}},
		{"return\nmethod g I 2\nconst 2\nconst 1\nreturn\nmethod h I 2\nconst 3\nconst 2\nnew A\n", []impl.Const{intConst(2), intConst(1), intConst(3), classConst("A")}},
	} {
		s := "class A\nmethod f I 4\n" + x.lines + "return\n"
		wantClassText(t, s)
		if got, ok := impl.ClassRead(s); !ok || !slices.Equal(got.Pool, x.want) {
			t.Errorf("ClassRead(%q) has the pool %v", s, got.Pool)
		}
	}
}

func TestPoolsThatAreTooGreat(t *testing.T) {
	for n := range 2 * impl.MaxPool {
		wantTextIf(t, poolText(n), n <= impl.MaxPool)
	}
	// Over several methods, of which each alone would do.
	for n := range 3 * impl.MaxPool {
		text := "class A\n"
		for i := range n {
			if i%12 == 0 {
				text += "method m" + someLetters[i/12:i/12+1] + " I 1\n"
			}
			text += "const " + strconv.Itoa(i*1000) + "\nconst 0\n"
			if i%12 == 11 || i == n-1 {
				text += "return\n"
			}
		}
		wantTextIf(t, text, n <= impl.MaxPool)
	}
}

func TestClassTextOfWhatIsNoClass(t *testing.T) {
	right := eachOpClass()
	if impl.ClassText(right) != eachOpText {
		t.Fatal("the class that is turned is none")
	}
	for i, turn := range []func(*impl.Class){
		func(c *impl.Class) { c.Name = "" }, func(c *impl.Class) { c.Name = "I" }, func(c *impl.Class) { c.Name = "a b" }, func(c *impl.Class) { c.Name = "\xff" }, func(c *impl.Class) { c.Name = longestName + "x" },
		func(c *impl.Class) { c.Super = "I" }, func(c *impl.Class) { c.Super = "a\n" },
		func(c *impl.Class) { c.Pool[1] = impl.Const{} }, func(c *impl.Class) { c.Pool[0].N-- }, func(c *impl.Class) { c.Pool[6] = c.Pool[0] }, func(c *impl.Class) { c.Pool = append(c.Pool, manyConsts(24)...) },
		func(c *impl.Class) { c.Fields[1].Name = "n" }, func(c *impl.Class) { c.Fields[0].Type = "" }, func(c *impl.Class) { c.Fields = manyFields(impl.MaxFields + 1) },
		func(c *impl.Class) { c.Methods[1].Name = "n" }, func(c *impl.Class) { c.Methods[1].Result = "" }, func(c *impl.Class) { c.Methods[0].Locals = 0 }, func(c *impl.Class) { c.Methods[1].Locals = 2 }, func(c *impl.Class) { c.Methods[1].Locals = 7 },
		func(c *impl.Class) { c.Methods[1].Params[1] = "1" }, func(c *impl.Class) { c.Methods[2].Params = slices.Repeat([]string{"I"}, 4) },
		func(c *impl.Class) { c.Methods[2].Code = nil }, func(c *impl.Class) { c.Methods[2].Code = slices.Repeat([]byte{19}, impl.MaxCode+1) },
		func(c *impl.Class) { c.Methods = manyMethods(impl.MaxMethods + 1) },
	} {
		c := eachOpClass()
		turn(&c)
		if impl.ClassOk(c) {
			t.Fatalf("turn %d makes a class", i)
		}
		wantNoClassText(t, c)
	}
	wantNoClassText(t, impl.Class{})
	wantNoClassText(t, impl.Class{Super: "A", Fields: manyFields(2)})
}

func TestClassTextOfWhatIsNoCode(t *testing.T) {
	for _, code := range []string{"\x00", "\x19", "\xff", "\x01", "\x01\x85", "\x03\x06\x13", "\x02\x18\x13", "\x0e\x01", "\x0e\x02", "\x0d\x01\x13", "\x05", "\x13\x05", "\x13\x00", "return", "\x01\x13\x0e\x01"} {
		for i := range 3 {
			c := eachOpClass()
			c.Methods[i].Code = []byte(code)
			if !impl.ClassOk(c) {
				t.Fatalf("%q: no class", code)
			}
			wantNoClassText(t, c)
			wantNoClassText(t, impl.Class{Name: "A", Methods: c.Methods[i : i+1]})
		}
	}
	// Whatever two bytes stand there.
	written := 0
	pool := []impl.Const{intConst(1), classConst("A"), fieldConst("A", "n"), callConst("A", "f"), intConst(2)}
	for x := range 256 * 256 {
		c := impl.Class{Name: "A", Pool: pool, Methods: []impl.Method{method("f", 2, string([]byte{byte(x), byte(x / 256), 19}), "I")}}
		want, _ := rawClassText(c)
		if got := impl.ClassText(c); got != want {
			t.Fatalf("ClassText(%+v) = %q, want %q", c, got, want)
		}
		if want != "" {
			written++
		}
	}
	if written < 400 {
		t.Errorf("%d written", written)
	}
}

// A place that refers to what is not in the pool, or is of another kind: no part of the class has a text.
func TestClassTextOfPlacesWithoutText(t *testing.T) {
	pool := []impl.Const{intConst(5), classConst("A"), fieldConst("A", "n"), callConst("A", "f")}
	for op, kind := range kindsOfOps {
		for size := range len(pool) + 1 {
			for at := range 6 {
				is := at < size && pool[at].Kind == kind
				for i := range 3 {
					list := []impl.Ins{push(1), push(2), push(3), ret()}
					list[i] = ins(op, at)
					c := codedClass(pool[:size], []impl.Ins{ret()}, list, []impl.Ins{jump(0)})
					want, _ := rawClassText(c)
					if got := impl.ClassText(c); got != want || (got != "") != is {
						t.Fatalf("ClassText(%+v) = %q, want %q", c, got, want)
					}
				}
			}
		}
	}
}

// A text with a blank or a byte 10 in it is several words where one is asked for; whether it does there is asked of the test's own reader alone.
func TestNamesInTexts(t *testing.T) {
	list := textCases()
	list["I"] = true
	for s, name := range list {
		want := func(text string, right bool) {
			t.Helper()
			if strings.ContainsAny(s, " \n") {
				wantTextThere(t, text)
			} else {
				wantTextIf(t, text, right)
			}
		}
		class := name && s != "I"
		want("class "+s+"\n", class)
		want("class A "+s+"\n", class)
		want("class "+s+" B\nfield n I\n", class)
		want("class A\nfield "+s+" I\n", name)
		want("class A\nfield n "+s+"\n", name)
		want("class A\nmethod "+s+" I 1\nreturn\n", name)
		want("class A\nmethod f "+s+" 1\nreturn\n", name)
		want("class A\nmethod f I 3 "+s+"\nreturn\n", name)
		want("class A\nmethod f I 3 I "+s+"\nreturn\n", name)
		want("class A\nmethod f I 1\nnew "+s+"\nreturn\n", name)
		for _, op := range []string{"get", "put", "call"} {
			a, b, _ := strings.Cut(s, ".")
			want("class A\nmethod f I 1\n"+op+" "+s+".n\nreturn\n", name)
			want("class A\nmethod f I 1\n"+op+" A."+s+"\nreturn\n", name)
			want("class A\nmethod f I 1\n"+op+" "+s+"\nreturn\n", isName(a) && isName(b))
		}
	}
	wantNoText(t, "class A B C\n")
	wantNoText(t, "class I\n")
	wantNoText(t, "class A I\n")
}

// numberCases: numbers as they may be written, by the number; of what is none there is no number.
func numberCases() map[string]int {
	list := map[string]int{}
	for n := -300; n <= 300; n++ {
		list[strconv.Itoa(n)] = n
	}
	for _, n := range numbersToAsk() {
		list[strconv.Itoa(n)] = n
	}
	for _, n := range []int{leastWord, leastWord - 1, leastWord + 1, greatestWord, greatestWord + 1, 1 << 32, 1<<32 + 5} {
		list[strconv.Itoa(n)] = n
	}
	return list
}

// noNumbers: what is written otherwise than any number, though some of it is read as one elsewhere.
func noNumbers() []string {
	return []string{
		"", "00", "01", "007", "-0", "-00", "-01", "-007", "+0", "+1", "+5", "++1", "--1", "-", "+", "-+1", "+-1", "- 1", "1 ", " 1", "1-", "1+",
		"0x1", "0X1", "0b1", "0o1", "1_0", "1e0", "1.0", "1.", ".1", "1,0", "one", "a", "I", "A.n", "\x31\x00", "\uff11", "\u0661", "\xff", "\xb1",
		"9223372036854775808", "-9223372036854775809", "18446744073709551616", "18446744073709551617", "4294967296000000000000", strings.Repeat("1", 200), strings.Repeat("0", 200) + "1", "-" + strings.Repeat("9", 100),
	}
}

func TestNumbersInTexts(t *testing.T) {
	at := map[string][2]int{"push": {-128, 127}, "load": {0, 5}, "store": {0, 5}, "zero": {0, 2}, "goto": {0, 2}, "const": {leastWord, greatestWord}}
	for word, limits := range at {
		line := func(n string) string { return "class A\nmethod f I 2\npush 1\n" + word + " " + n + "\nreturn\n" }
		for s, n := range numberCases() {
			wantTextIf(t, line(s), n >= limits[0] && n <= limits[1])
		}
		for _, s := range noNumbers() {
			wantTextIf(t, line(s), false)
		}
	}
	for s, n := range numberCases() {
		wantTextIf(t, "class A\nmethod f I "+s+"\nreturn\n", n >= 1 && n <= 6)
		wantTextIf(t, "class A\nmethod f I "+s+" A A\nreturn\n", n >= 3 && n <= 6)
	}
	for _, s := range noNumbers() {
		wantTextIf(t, "class A\nmethod f I "+s+"\nreturn\n", false)
		wantTextIf(t, "class A\nmethod f I "+s+" A\nreturn\n", false)
	}
}

// Each op with an N and without one.
func TestWordsOfPlaces(t *testing.T) {
	line := func(s string) string { return "class A\nmethod f I 2\npush 1\n" + s + "\nreturn\n" }
	for op := 1; op <= 24; op++ {
		word := wordsOfOps[op]
		_, has := numberedOps[op]
		kind, refers := kindsOfOps[op]
		wantTextIf(t, line(word), !has)
		wantTextIf(t, line(word+" 0"), has && (!refers || kind == impl.PlInt))
		wantTextIf(t, line(word+" A"), kind == impl.PlClass)
		wantTextIf(t, line(word+" A.n"), kind == impl.PlField || kind == impl.PlCall)
		for _, tail := range []string{" ", "  ", " 0 ", " 0 0", " A.", " .n", " .", " A.n.m", " A..n", " A .n", " A. n", " A A", " A.n ", "\t", "\t0", ".", ";", " -", " n0"} {
			wantTextIf(t, line(word+tail), false)
		}
		for _, s := range []string{strings.ToUpper(word), strings.ToUpper(word[:1]) + word[1:], "Op" + word, "op" + word, word + "s", word[1:], word[:len(word)-1], " " + word, "\t" + word, "-" + word, word + "\r", word + word, word + "\x00"} {
			for _, tail := range []string{"", " 0", " A", " A.n"} {
				wantTextIf(t, line(s+tail), false)
			}
		}
	}
	for _, s := range []string{"", " ", "noop", "0", "1", "19", "class", "field", "method", "I", "halt", "return return", "\xff", "\u00e9", "pr\xc3\xadnt"} {
		wantTextIf(t, line(s), false)
		wantTextIf(t, line(s+" 0"), false)
	}
}

func TestParamsAndLocalsInTexts(t *testing.T) {
	right := 0
	for params := range 2 * impl.MaxParams {
		for locals := -2; locals < 12; locals++ {
			is := params <= impl.MaxParams && locals > params && locals <= impl.MaxLocals
			wantTextIf(t, "class A\nmethod f I "+strconv.Itoa(locals)+strings.Repeat(" B", params)+"\nreturn\n", is)
			if is {
				right++
			}
		}
	}
	if right != 6+5+4+3 {
		t.Errorf("%d are right", right)
	}
}

func TestHowManyInTexts(t *testing.T) {
	fields, methods := "", ""
	for n := range 12 {
		if n > 0 {
			fields += "field f" + someLetters[n:n+1] + " I\n"
			methods += "method m" + someLetters[n:n+1] + " I 1\nreturn\n"
		}
		wantTextIf(t, "class A\n"+fields, n <= impl.MaxFields)
		wantTextIf(t, "class A\n"+methods, n <= impl.MaxMethods)
		wantTextIf(t, "class A\n"+fields+methods, n <= impl.MaxMethods)
		wantTextIf(t, "class A\n"+fields+"field fb B\n", n == 0)
		wantTextIf(t, "class A\n"+methods+"method mb A 2\nreturn\n", n == 0)
	}
	for n := range 2 * impl.MaxCode {
		wantTextIf(t, "class A\nmethod f I 1\n"+strings.Repeat("return\n", n), n >= 1 && n <= impl.MaxCode)
		wantTextIf(t, "class A\nmethod f I 1\n"+strings.Repeat("goto 0\n", n), n >= 1 && 2*n <= impl.MaxCode)
		wantTextIf(t, "class A\nmethod f I 1\n"+strings.Repeat("push 0\n", n)+"return\n", 2*n+1 <= impl.MaxCode)
		wantTextIf(t, "class A\nmethod f I 1\n"+strings.Repeat("dup\n", n)+"return\nmethod g I 1\nreturn\n", n+1 <= impl.MaxCode)
		wantTextIf(t, "class A\nmethod f I 1\n"+strings.Repeat("dup\n", n), false)
	}
}

func TestTextsThatAreNone(t *testing.T) {
	for _, s := range []string{
		"", "\n", " ", " \n", "\n\n", "class", "class\n", "class \n", "class  \n", "class A", "class A \n", "class  A\n", " class A\n", "class A\n\n", "\nclass A\n", "class A\r\n", "class\tA\n", "Class A\n", "CLASS A\n",
		"class A B \n", "class A  B\n", "class A B C\n", "class A,B\n", "class A\x00\n", "class A\nclass A\n", "class A\nclass B\n", "A\n", "classA\n", "class A.B\n",
		"field n I\n", "method f I 1\nreturn\n", "return\n", "push 1\nreturn\n", "field n I\nclass A\n", "class A\nreturn\n", "class A\npush 1\n", "class A\nfield n I\nreturn\n",
		"class A\nfield\n", "class A\nfield \n", "class A\nfield n\n", "class A\nfield n \n", "class A\nfield n  I\n", "class A\nfield  n I\n", "class A\nfield n I \n", "class A\n field n I\n", "class A\nfield n I I\n", "class A\nfields n I\n", "class A\nfield n I",
		"class A\nfield n I\n\nfield m I\n", "class A\n\nfield n I\n", "class A\nmethod f I 1\nreturn\nfield n I\n", "class A\nmethod f I 1\nfield n I\nreturn\n", "class A\nfield n I\nfield n A\n",
		"class A\nmethod\n", "class A\nmethod f\nreturn\n", "class A\nmethod f I\nreturn\n", "class A\nmethod f I \nreturn\n", "class A\nmethod f 1\nreturn\n", "class A\nmethod f 1 I\nreturn\n", "class A\nmethod f I 1\n", "class A\nmethod f I 1",
		"class A\nmethod f I 1 \nreturn\n", "class A\nmethod  f I 1\nreturn\n", "class A\nmethod f  I 1\nreturn\n", "class A\nmethod f I  1\nreturn\n", "class A\nmethod f I 2  A\nreturn\n", "class A\nmethod f I 2 A \nreturn\n", "class A\nmethod f A I 2\nreturn\n", "class A\n method f I 1\nreturn\n",
		"class A\nmethod f I 1\nreturn", "class A\nmethod f I 1\n\nreturn\n", "class A\nmethod f I 1\nreturn\n\n", "class A\nmethod f I 1\n return\n", "class A\nmethod f I 1\nreturn \n", "class A\nmethod f I 1\npush 1\n", "class A\nmethod f I 1\nprint\n", "class A\nmethod f I 1\ngoto 1\n", "class A\nmethod f I 1\ngoto -1\n",
		"class A\nmethod f I 1\nmethod g I 1\nreturn\n", "class A\nmethod f I 1\nreturn\nmethod f I 1\nreturn\n", "class A\nmethod f I 1\nreturn\nmethod f A 2\nreturn\n", "class A\nmethod f I 1\nzero 2\nreturn\n", "class A\nmethod f I 1\nreturn\nmethod g I 1\ngoto 1\n",
		"class A\n;\n", "; class A\n", "class A ; B\n", "class \xff\n", "class A\n\xff\n", "\xffclass A\n", "\ufeffclass A\n", "class A\xc2\xa0B\n", "class A\u2028", "class \u00c5\n", "class A\n\u0085", "class A\xe2\nfield n I\n", "class A\nfield \xf0\x9f\nn I\n",
	} {
		wantTextIf(t, s, false)
	}
}

// A text cut short at each place, from both ends, and with something ahead of it or behind it.
func TestTextsCutShort(t *testing.T) {
	t.Parallel()
	read := 0
	for _, s := range rightTexts()[:20] {
		step := 1 + len(s)/500
		for cut := 0; cut < len(s); cut += step {
			if wantTextThere(t, s[:cut]) {
				read++
			}
			wantTextThere(t, s[cut:])
			if cut > 0 && s[cut-1] != '\n' {
				wantNoText(t, s[:cut])
			}
		}
		for x := range 256 {
			one := string([]byte{byte(x)})
			wantTextIf(t, s+one, false)
			wantTextIf(t, one+s, false)
		}
	}
	if read < 20 {
		t.Errorf("%d read", read)
	}
}

// shortTexts have some of all, and are short enough to be turned at each byte.
func shortTexts() []string {
	return []string{
		"class A\n", "class Ab Cd\nfield n I\nfield m Ab\n",
		"class A\nmethod f I 2 A\npush -1\nconst 10\nload 1\nprint\ngoto 0\nmethod g B 1\nreturn\n",
		"class A B\nmethod f I 1\nnew B\nget B.n\nput B.n\ncall B.f\nzero 5\nreturn\n",
		"class A\nfield n I\nclass B A\nmethod f I 1\nreturn\n",
	}
}

// Whatever stands at one byte, is left out or put in: what is read is just what is written so.
func TestTextsWithAByteTurned(t *testing.T) {
	t.Parallel()
	read := 0
	for _, s := range shortTexts() {
		for i := range s {
			for x := range 256 {
				one := string([]byte{byte(x)})
				if wantSetThere(t, s[:i]+one+s[i+1:]) {
					read++
				}
				wantTextThere(t, s[:i]+one+s[i+1:])
				wantTextThere(t, s[:i]+one+s[i:])
			}
			wantTextThere(t, s[:i]+s[i+1:])
			for _, more := range []string{"  ", "\n\n", "\r\n", "\nfield x I\n", "\nclass C\n", "\u00e9", "\ufffd", "\xed\xa0\x80", "\xf4\x90\x80\x80", "\xe2\x80"} {
				wantTextThere(t, s[:i]+more+s[i:])
			}
		}
	}
	if read < 2000 {
		t.Errorf("%d read", read)
	}
}

// Lines left out, doubled and in another order.
func TestTextsWithLinesTurned(t *testing.T) {
	t.Parallel()
	read := 0
	for _, s := range append(shortTexts(), eachOpText, poolText(9)) {
		lines := strings.SplitAfter(s, "\n")
		lines = lines[:len(lines)-1]
		for i := range lines {
			for k := range lines {
				moved := slices.Clone(lines)
				moved[i], moved[k] = moved[k], moved[i]
				if wantTextThere(t, strings.Join(moved, "")) {
					read++
				}
				wantTextThere(t, strings.Join(slices.Insert(slices.Clone(lines), i, lines[k]), ""))
			}
			wantTextThere(t, strings.Join(slices.Delete(slices.Clone(lines), i, i+1), ""))
			wantTextThere(t, strings.Join(lines[i:], "")+strings.Join(lines[:i], ""))
		}
	}
	if read < 300 {
		t.Errorf("%d read", read)
	}
}

func TestTextsOfAnyLines(t *testing.T) {
	t.Parallel()
	pieces := []string{"class A\n", "class B A\n", "field n I\n", "method f I 1\n", "method g A 2 I\n", "push 1\n", "return\n", "goto 1\n", "get A.n\n", "\n", "class "}
	n := len(pieces)
	read, sets := 0, 0
	for i := range n * n * n * n * n {
		s := ""
		for rest, k := i, 0; k < 5; k++ {
			s += pieces[rest%n]
			rest /= n
		}
		if wantTextThere(t, s) {
			read++
		}
		if wantSetThere(t, s) {
			sets++
		}
	}
	if read < 5 || sets < 100 {
		t.Errorf("%d and %d read", read, sets)
	}
}

func TestSets(t *testing.T) {
	list := rightTexts()
	for n := range impl.MaxClasses + 3 {
		for from := range list {
			s := ""
			for i := range n {
				s += list[(from+i)%len(list)]
			}
			is := n >= 1 && n <= impl.MaxClasses
			if wantSetThere(t, s) != is {
				t.Fatalf("%d classes: %v", n, !is)
			}
			if got, _ := impl.SetRead(s); is && len(got) != n {
				t.Fatalf("%d classes of %d", len(got), n)
			}
			if n != 1 {
				wantNoText(t, s)
			}
		}
		if is := n >= 1 && n <= impl.MaxClasses; wantSetThere(t, strings.Repeat("class A\n", n)) != is || wantSetThere(t, strings.Repeat(eachOpText, n)) != is {
			t.Fatalf("%d classes that are alike: %v", n, !is)
		}
	}
	got, ok := impl.SetRead("class Main\nmethod run I 1\nconst 5\nreturn\nclass Kid Main\nfield n I\nclass A\nmethod run I 1\nconst 6\nconst 5\nreturn\n")
	want := []impl.Class{
		{Name: "Main", Pool: []impl.Const{intConst(5)}, Methods: []impl.Method{method("run", 1, "\x02\x00\x13", "I")}},
		{Name: "Kid", Super: "Main", Fields: []impl.Field{{Name: "n", Type: "I"}}},
		{Name: "A", Pool: []impl.Const{intConst(6), intConst(5)}, Methods: []impl.Method{method("run", 1, "\x02\x00\x02\x01\x13", "I")}},
	}
	if !ok || !sameSet(got, want) {
		t.Errorf("SetRead = %+v, %v; want %+v", got, ok, want)
	}
}

// Of a set of which one class is wrong, whichever it is, nothing is read.
func TestSetsWithOneThatIsWrong(t *testing.T) {
	for n := 1; n <= impl.MaxClasses; n++ {
		for i := range n {
			for _, wrong := range []string{
				"class I\n", "class A\n\n", "class \n", "class A\nfield n I\nfield n I\n", "class A B C\n", "class A\nmethod f I 1\npush 1\n", "class A\nreturn\n", "class  A\n", " class A\n", "\n", "field\n",
				"class A\nmethod f I 1\npush 128\nreturn\n", "class A\nmethod f I 1\nreturn \n", "class", "class\n", "Class A\n", "field n i\n\n", "return", "class A\nmethod f I 7\nreturn\n", "class \xff\n", "\xff",
			} {
				parts := slices.Repeat([]string{"class A\nmethod f I 1\nreturn\n"}, n)
				parts[i] = wrong
				s := strings.Join(parts, "")
				if wantSetThere(t, s) {
					t.Fatalf("%q is a set", s)
				}
			}
		}
	}
	for _, s := range []string{
		"", "\n", "class A\nclass B", "class A\nclass \n", "class A\n class B\n", "class A\n\nclass B\n", "\nclass A\nclass B\n", "field n I\nclass A\n", "; class A\nclass A\n", " class A\n", "class A class B\n", "class A\nclass\nclass B\n",
		"return\nclass A\n", "method f I 1\nreturn\nclass A\n", "class A\nfield class I\nfield class I\nclass B\n",
	} {
		if wantSetThere(t, s) {
			t.Errorf("%q is a set", s)
		}
	}
}

// P33: what is far too much is answered, too.
func TestTextsThatAreFarTooLong(t *testing.T) {
	t.Parallel()
	const many = 1 << 20
	for _, s := range []string{"\n", " ", "a", "0", ".", "class A\n", "class ", "\nclass ", "field n I\n", "return\n", "const 1\n", "\xff", "\x00", "\u00e9", "\nclass A"} {
		long := strings.Repeat(s, many/len(s))
		for _, head := range []string{"", "class A\n", "class A", "class ", "class A\nfield n ", "class A\nmethod f I 1\n", "class A\nmethod f I 1", "class A\nmethod f I 1\npush 1", "class A\nmethod f I 1\ncall A"} {
			wantNoText(t, head+long)
			wantNoSet(t, head+long)
			wantNoText(t, head+long+"\n")
			wantNoSet(t, "class B\n"+head+long+"\n")
		}
	}
	var words strings.Builder
	for i := range many / 16 {
		words.WriteString("const " + strconv.Itoa(i) + "\n")
	}
	wantNoText(t, "class A\nmethod f I 1\n"+words.String()+"return\n")
	wantNoSet(t, "class A\nmethod f I 1\n"+words.String()+"return\n")
	long := strings.Repeat("A", many)
	wantNoClassText(t, impl.Class{Name: long})
	wantNoClassText(t, impl.Class{Name: "A", Pool: make([]impl.Const, many/64)})
	wantNoClassText(t, impl.Class{Name: "A", Methods: []impl.Method{method("f", 1, long, "I")}})
	if impl.InsText(impl.Class{Pool: slices.Repeat([]impl.Const{classConst("A")}, many/64)}, ins(impl.OpNew, many/64-1)) != "new A" {
		t.Error("the last one of a long pool")
	}
}

// textClassesForMemory: classes whose texts there are, and others.
func textClassesForMemory() []impl.Class {
	list := classesForMemory()
	for _, s := range rightTexts() {
		c, _ := textThere(s)
		list = append(list, c)
		c = cloneClass(c)
		c.Pool = append(c.Pool, classConst("Spare"))
		list = append(list, c)
	}
	c := eachOpClass()
	c.Methods[2].Code = []byte{1}
	d := eachOpClass()
	d.Pool = d.Pool[:3]
	return append(list, c, d, impl.Class{})
}

// P33: neither a class' lists, nor those of its methods, nor the spare room behind them are written; what stands there does not count.
func TestTextsWriteNothing(t *testing.T) {
	for _, c := range textClassesForMemory() {
		given := roomyClass(c)
		were := cloneClass(wholeClass(given))
		text := impl.ClassText(given)
		for op := -1; op <= 25; op++ {
			for n := -1; n <= len(c.Pool)+3; n++ {
				if impl.InsText(given, ins(op, n)) != impl.InsText(cloneClass(c), ins(op, n)) {
					t.Fatalf("InsText of %+v, %d, %d hangs on the room behind it", c, op, n)
				}
			}
		}
		if !sameClass(wholeClass(given), were) || !sameClass(given, c) {
			t.Fatalf("%+v is written into", c)
		}
		if text != impl.ClassText(cloneClass(c)) {
			t.Fatalf("ClassText(%+v) hangs on the room behind it", c)
		}
	}
}

// P33: no two lists of one answer share any memory, neither of one class nor of two of a set: where one is written over, all others are as they were.
func TestListsOfOneSetAreApart(t *testing.T) {
	t.Parallel()
	list := rightTexts()
	for from := range list {
		s := list[from] + eachOpText + list[from] + list[(from+1)%len(list)]
		want, _ := setThere(s)
		for i := range want {
			for number := 0; ; number++ {
				got, _ := impl.SetRead(s)
				changed, _ := setThere(s)
				if !spoilList(got[i], number) {
					break
				}
				spoilList(changed[i], number)
				if !sameSet(got, changed) {
					t.Fatalf("list %d of class %d of %q shares memory with another one", number, i, s)
				}
			}
			got, _ := impl.SetRead(s)
			methods := slices.Clone(got[i].Methods)
			spoilAll(got[i].Methods, impl.Method{Name: "spoilt"})
			got[i].Methods = methods
			if !sameSet(got, want) {
				t.Fatalf("Methods of class %d of %q share memory with another list", i, s)
			}
		}
	}
}

// P33: what is answered twice shares no memory, and what was read is not written again.
func TestTextsAreNewMemory(t *testing.T) {
	for _, s := range rightTexts() {
		want, _ := textThere(s)
		got, _ := impl.ClassRead(s)
		again, _ := impl.ClassRead(s)
		set, _ := impl.SetRead(s)
		text := impl.ClassText(again)
		for number := 0; spoilList(got, number); number++ {
		}
		spoilAll(got.Methods, impl.Method{Name: "spoilt"})
		spoilAll(set, impl.Class{Name: "spoilt"})
		if !sameClass(again, want) || text != s || impl.ClassText(again) != s {
			t.Fatalf("ClassRead(%q) shares memory", s)
		}
		for number := 0; spoilList(again, number); number++ {
		}
		if text != s {
			t.Fatalf("ClassText of what %q is shares memory", s)
		}
	}
}

func textsOf(c impl.Class) []string {
	list := []string{c.Name, c.Super}
	for _, k := range c.Pool {
		list = append(list, k.A, k.B)
	}
	for _, f := range c.Fields {
		list = append(list, f.Name, f.Type)
	}
	for _, m := range c.Methods {
		list = append(append(list, m.Name, m.Result), m.Params...)
	}
	return list
}

func pieceOf(whole, part string) bool {
	if whole == "" || part == "" {
		return false
	}
	first, at := uintptr(unsafe.Pointer(unsafe.StringData(whole))), uintptr(unsafe.Pointer(unsafe.StringData(part)))
	return at >= first && at < first+uintptr(len(whole))
}

// P33: no name that is read is a piece of the text that it was read from, nor a text a piece of a name.
func TestNamesAreNewMemory(t *testing.T) {
	for _, s := range rightTexts() {
		s = strings.Clone(s)
		c, _ := impl.ClassRead(s)
		set, _ := impl.SetRead(s)
		for _, name := range append(textsOf(c), textsOf(set[0])...) {
			if pieceOf(s, name) {
				t.Fatalf("%q is a piece of %q", name, s)
			}
		}
		text := impl.ClassText(c)
		for _, name := range textsOf(c) {
			if pieceOf(text, name) || pieceOf(name, text) {
				t.Fatalf("%q shares memory with a name", text)
			}
		}
		for i, k := range c.Pool {
			if line := impl.InsText(c, ins(impl.OpNew, i)); pieceOf(line, k.A) || pieceOf(k.A, line) {
				t.Fatalf("%q shares memory with a name", line)
			}
		}
	}
}

// tellTexts: what the functions of this chapter answer to a class and to a text.
func tellTexts(c impl.Class, s string) string {
	read, ok := impl.ClassRead(s)
	set, are := impl.SetRead(s + s)
	_, cut := impl.ClassRead(s[:len(s)/2])
	told := fmt.Sprintf("%q %+v %v %+v %v %v", impl.ClassText(c), read, ok, set, are, cut)
	for op := range 26 {
		told += impl.InsText(c, ins(op, op%5)) + ";"
	}
	return told
}

// Whatever was asked ahead of it, right or wrong: the answer is the same.
func TestTextsKeepNothing(t *testing.T) {
	classes, texts := textClassesForMemory(), append(rightTexts(), shortTexts()...)
	var were []string
	for i, c := range classes {
		were = append(were, tellTexts(c, texts[i%len(texts)]))
	}
	for _, step := range []int{1, 7, 11, len(classes) - 1} {
		for i := range classes {
			at := i * step % len(classes)
			if now := tellTexts(classes[at], texts[at%len(texts)]); now != were[at] {
				t.Fatalf("%+v: now %s, ahead of it %s", classes[at], now, were[at])
			}
		}
	}
	for _, s := range rightTexts() {
		impl.ClassRead("class Left Over\nfield left Over\nmethod over I 3 I\nget Left.over\nconst 77\npush 1\n")
		impl.SetRead("class Left\nfield left Over\nclass Over\nmethod over I 3 I\nconst 77\n")
		wantClassText(t, s)
	}
}

// Many that ask at once are answered as one that asks alone.
func TestTextsAskedAtOnce(t *testing.T) {
	texts := rightTexts()
	var group sync.WaitGroup
	var wrong [8]string
	for i := range wrong {
		group.Add(1)
		go func() {
			defer group.Done()
			for k := range texts {
				s := texts[(k+i)%len(texts)]
				if c, ok := impl.ClassRead(s); !ok || impl.ClassText(c) != s {
					wrong[i] = s
				}
			}
			for op := 1; op <= 24; op++ {
				if want, _ := rawLine(nil, bare(op)); impl.InsText(impl.Class{}, bare(op)) != want {
					wrong[i] = wordsOfOps[op]
				}
			}
		}()
	}
	group.Wait()
	for _, s := range wrong {
		if s != "" {
			t.Errorf("%q is not read as it was", s)
		}
	}
}
