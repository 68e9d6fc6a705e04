package tests

import (
	"fmt"
	"maps"
	"math"
	"slices"
	"strings"
	"testing"

	"loop.example/g00283/impl"
)

// memoryText: Kid (1) has the fields of Main (0) and two of its own, Far (2) those of Kid and one more, Bare (3) none, Full (4) as many as there may be;
// Back (5) has one of its own class, and one of a class whose number is 0.
const memoryText = "class Main\nfield n I\nfield next Kid\nmethod run I 1\npush 0\nreturn\n" +
	"class Kid Main\nfield far Far\nfield m I\n" +
	"class Far Kid\nfield last Bare\n" +
	"class Bare\n" +
	"class Full\nfield a I\nfield b I\nfield c Full\nfield d I\nfield e Main\nfield f Full\nfield g Kid\nfield h I\n" +
	"class Back Bare\nfield back Back\nfield own Main\n"

func memoryProg(t *testing.T) impl.Prog {
	t.Helper()
	return progOf(t, memoryText)
}

// twoLists are what stands ahead of a bar and behind it, each of parts between semicolons.
func twoLists(told string) ([]string, []string) {
	first, second, _ := strings.Cut(told, "|")
	parts := func(s string) []string {
		if strings.TrimSpace(s) == "" {
			return nil
		}
		return strings.Split(s, ";")
	}
	return parts(first), parts(second)
}

// memoryOf reads what tellMemory tells: "1.0 5 @17; 17.3 | 17 3 2" is object 1 of class 0, which has 5 and object 17, object 17 of class 3, and
// the monitor of 17, which 3 holds twice.
func memoryOf(told string) impl.Memory {
	var m impl.Memory
	objects, locks := twoLists(told)
	for _, s := range objects {
		head, values, _ := strings.Cut(strings.TrimSpace(s), " ")
		o := impl.Object{Fields: valsOf(values)}
		if _, err := fmt.Sscanf(head, "%d.%d", &o.Id, &o.Class); err != nil {
			panic(s)
		}
		m.Objects = append(m.Objects, o)
	}
	for _, s := range locks {
		var l impl.Lock
		if _, err := fmt.Sscan(s, &l.Id, &l.Who, &l.Count); err != nil {
			panic(s)
		}
		m.Locks = append(m.Locks, l)
	}
	return m
}

func tellMemory(m impl.Memory) string {
	var objects, locks []string
	for _, o := range m.Objects {
		objects = append(objects, strings.TrimSpace(fmt.Sprintf("%d.%d %s", o.Id, o.Class, tellVals(o.Fields))))
	}
	for _, l := range m.Locks {
		locks = append(locks, fmt.Sprint(l.Id, l.Who, l.Count))
	}
	return strings.TrimSpace(strings.Join(objects, "; ") + " | " + strings.Join(locks, "; "))
}

func sameObject(a, b impl.Object) bool {
	return a.Id == b.Id && a.Class == b.Class && slices.Equal(a.Fields, b.Fields)
}

func sameMemory(a, b impl.Memory) bool {
	return slices.EqualFunc(a.Objects, b.Objects, sameObject) && slices.Equal(a.Locks, b.Locks)
}

func cloneMemory(m impl.Memory) impl.Memory {
	m.Objects, m.Locks = slices.Clone(m.Objects), slices.Clone(m.Locks)
	for i, o := range m.Objects {
		m.Objects[i].Fields = slices.Clone(o.Fields)
	}
	return m
}

// someMemory is right by memoryText; between its objects, ahead of and behind them there is room for others.
const someMemory = "2.0 5 @17; 17.1 -7 @17 @40 2147483647; 40.2 0 @0 @40 1 @41; 41.3; 90.4 1 2 @90 -2147483648 @2 @0 @17 8; 91.5 @91 @1000000 | 2 3 1; 17 3 2; 90 1000000 1000"

// memoryRight tells by itself what MemoryOk has to answer.
func memoryRight(p impl.Prog, m impl.Memory) bool {
	objects, locks := map[int]bool{}, map[int]bool{}
	for i, o := range m.Objects {
		if o.Id < 1 || o.Id > 1000000 || objects[o.Id] || i > 0 && o.Id < m.Objects[i-1].Id {
			return false
		}
		objects[o.Id] = true
		if o.Class < 0 || o.Class >= len(p.Kinds) || len(o.Fields) != len(p.Kinds[o.Class].Fields) {
			return false
		}
		for at, v := range o.Fields {
			if !valRight(v) || v.Ref == (p.Kinds[o.Class].Fields[at].Type == "I") {
				return false
			}
		}
	}
	for i, l := range m.Locks {
		if !objects[l.Id] || locks[l.Id] || i > 0 && l.Id < m.Locks[i-1].Id || l.Who < 1 || l.Who > 1000000 || l.Count < 1 || l.Count > 1000 {
			return false
		}
		locks[l.Id] = true
	}
	return true
}

func freshThere(p impl.Prog, class int) []impl.Val {
	if class < 0 || class >= len(p.Kinds) {
		return nil
	}
	list := make([]impl.Val, len(p.Kinds[class].Fields))
	for i, f := range p.Kinds[class].Fields {
		list[i] = map[bool]impl.Val{true: wordVal(0), false: refVal(0)}[f.Type == "I"]
	}
	return list
}

func TestMemoryConstants(t *testing.T) {
	if impl.MaxCount != 1000 {
		t.Error("limits")
	}
}

func wantFresh(t *testing.T, p impl.Prog, class int, told string) {
	t.Helper()
	if got := impl.Fresh(p, class); !slices.Equal(got, valsOf(told)) {
		t.Errorf("Fresh of class %d is %s in place of %s", class, tellVals(got), told)
	}
}

func TestFresh(t *testing.T) {
	p := memoryProg(t)
	for class, told := range []string{"0 @0", "0 @0 @0 0", "0 @0 @0 0 @0", "", "0 0 @0 0 @0 @0 @0 0", "@0 @0"} {
		wantFresh(t, p, class, told)
	}
	for _, class := range append(edgeNumbers(), 6, 7, 256, 1<<32+1) {
		wantFresh(t, p, class, "")
	}
	wantFresh(t, impl.Prog{}, 0, "")
	wantFresh(t, impl.Prog{}, -1, "")
}

// What Fresh tells is right in every memory, and of a program that is not in order it asks only for the fields of the class.
func TestFreshOfManyPrograms(t *testing.T) {
	fields := 0
	for _, p := range append(append(listTurns(memoryProg(t)), wrongTurns(threadProg(t, 2, "push 0; return"))...), twistedProgs()...) {
		for class := -2; class <= len(p.Kinds)+1; class++ {
			got := impl.Fresh(p, class)
			if !slices.Equal(got, freshThere(p, class)) {
				t.Fatalf("%+v: Fresh of class %d is %+v", p, class, got)
			}
			if class >= 0 && class < len(p.Kinds) && !impl.MemoryOk(p, impl.Memory{Objects: []impl.Object{{Id: 9, Class: class, Fields: got}}}) {
				t.Fatalf("%+v: what Fresh makes of class %d is not right", p, class)
			}
			fields += len(got)
		}
	}
	if fields < 3000 {
		t.Errorf("%d fields", fields)
	}
}

func wantMemoryOk(t *testing.T, p impl.Prog, right bool, list ...string) {
	t.Helper()
	for _, told := range list {
		m := memoryOf(told)
		if memoryRight(p, m) != right {
			t.Errorf("%s is not as this test wants it", told)
		}
		if impl.MemoryOk(p, m) != right {
			t.Errorf("MemoryOk of %s is %v", told, !right)
		}
	}
}

func TestMemoryOkOfRightOnes(t *testing.T) {
	p := memoryProg(t)
	wantMemoryOk(t, p, true, "", someMemory,
		// Numbers, and the least and the most of each.
		"1.3", "1000000.3", "1.3; 2.3", "999999.3; 1000000.3", "1.3; 1000000.3", "3.3; 4.3; 5.3; 6.3; 500.3",
		"7.0 -2147483648 @0", "7.0 2147483647 @1000000", "7.0 0 @7", "7.0 0 @8", "7.5 @0 @0",
		// Locks.
		"1.3 | 1 1 1", "1.3 | 1 1000000 1000", "1000000.3 | 1000000 1 1", "1.3; 2.3; 3.3 | 1 5 1; 2 5 1; 3 5 1", "1.3; 2.3; 3.3 | 1 5 7; 3 4 2",
		"1.3; 2.3; 3.3 | 2 2 2", "1.3; 2.3; 3.3 | 3 1 1000", "1.3; 5.3 | 1 7 1; 5 8 1000", "4.0 5 @0 | 4 9 1",
	)
}

func TestMemoryOkOfWrongOnes(t *testing.T) {
	p := memoryProg(t)
	wantMemoryOk(t, p, false,
		// Numbers that are none, or do not ascend.
		"0.3", "-1.3", "1000001.3", "0.3; 1.3", "-3.3; 1.3", "1.3; 1000001.3", "2.3; 1.3", "1.3; 1.3", "1.3; 3.3; 2.3", "1.3; 2.3; 1.3", "1.3; 2.3; 2.3", "3.3; 1.3; 2.3",
		"5.0 1 @0; 5.0 1 @0", "5.0 1 @0; 5.3", "9223372036854775807.3; 9223372036854775807.3", "9223372036854775807.3; 1.3", "-9223372036854775808.3",
		// Classes that there are not.
		"1.6", "1.-1", "1.7", "1.256", "1.6; 2.3", "1.3; 2.6", "1.4294967299", "1.6 0 @0", "1.-1 0 @0",
		// One field more and less.
		"1.3 0", "1.3 @0", "1.0", "1.0 0", "1.0 0 @0 0", "1.0 0 @0 @0", "1.1 0 @0 @0", "1.1 0 @0", "1.1 0 @0 @0 0 0", "1.4 0 0 @0 0 @0 @0 @0", "1.4 0 0 @0 0 @0 @0 @0 0 0", "1.5 @0", "1.5 @0 @0 @0", "1.3; 2.3 0", "1.3 0; 2.3",
		// Fields that are no values.
		"1.0 2147483648 @0", "1.0 -2147483649 @0", "1.0 9223372036854775807 @0", "1.0 0 @-1", "1.0 0 @1000001", "1.0 0 @-9223372036854775808", "1.1 0 @0 @0 2147483648", "1.4 2147483648 0 @0 0 @0 @0 @0 0", "1.5 @0 @1000001", "1.3; 2.0 0 @-1",
		// A Ref where the type is `I`, and none where it is a class.
		"1.0 @0 @0", "1.0 @5 @0", "1.0 0 0", "1.0 0 5", "1.0 @0 0", "1.1 0 @0 0 0", "1.1 0 @0 @0 @0", "1.2 0 @0 @0 0 0", "1.4 0 0 @0 0 @0 @0 @0 @0", "1.4 0 0 @0 0 @0 0 @0 0", "1.5 0 @0", "1.5 @0 0", "1.3; 2.5 @0 0",
	)
	wantMemoryOk(t, p, false,
		// Locks of no object.
		"| 1 1 1", "1.3 | 2 1 1", "2.3 | 1 1 1", "1.3; 3.3 | 2 1 1", "1.3; 3.3 | 1 1 1; 2 1 1; 3 1 1", "1.3 | 0 1 1", "1.3 | -1 1 1", "1.3 | 1 1 1; 1000001 1 1", "1.3; 2.3 | 4 1 1", "1.3; 2.3 | 0 1 1; 1 1 1",
		// Locks that do not ascend.
		"1.3; 2.3 | 2 1 1; 1 1 1", "1.3 | 1 1 1; 1 1 1", "1.3 | 1 1 1; 1 2 1", "1.3; 2.3; 3.3 | 1 1 1; 3 1 1; 2 1 1", "1.3; 2.3; 3.3 | 3 1 1; 1 1 1; 2 1 1", "1.3; 2.3 | 1 1 1; 2 1 1; 2 1 1",
		// Who is none.
		"1.3 | 1 0 1", "1.3 | 1 -1 1", "1.3 | 1 1000001 1", "1.3; 2.3 | 1 1 1; 2 0 1", "1.3; 2.3 | 1 1000001 1; 2 1 1", "1.3 | 1 9223372036854775807 1", "1.3 | 1 -9223372036854775808 1",
		// Counts that are none.
		"1.3 | 1 1 0", "1.3 | 1 1 -1", "1.3 | 1 1 1001", "1.3; 2.3 | 1 1 1; 2 1 0", "1.3; 2.3 | 1 1 1001; 2 1 1", "1.3 | 1 1 9223372036854775807", "1.3 | 1 1 -9223372036854775808",
		// A wrong object beside right locks, and the other way round.
		"1.3; 2.3 0 | 1 1 1", "1.3; 2.9 | 1 1 1", "2.3; 1.3 | 1 1 1", "1.3 | 1 1 1001; 2 0 0",
	)
}

// memoryInts points to each number of a memory, and memoryFlags to each Ref.
func memoryInts(m impl.Memory) []*int {
	var list []*int
	for i := range m.Objects {
		list = append(list, &m.Objects[i].Id, &m.Objects[i].Class)
		for at := range m.Objects[i].Fields {
			list = append(list, &m.Objects[i].Fields[at].N)
		}
	}
	for i := range m.Locks {
		list = append(list, &m.Locks[i].Id, &m.Locks[i].Who, &m.Locks[i].Count)
	}
	return list
}

func memoryFlags(m impl.Memory) []*bool {
	var list []*bool
	for _, o := range m.Objects {
		for at := range o.Fields {
			list = append(list, &o.Fields[at].Ref)
		}
	}
	return list
}

// turnedMemories are one turn away from a memory: a number, a Ref, or a list is turned.
func turnedMemories(m impl.Memory) []impl.Memory {
	var out []impl.Memory
	add := func(turn func(q *impl.Memory)) {
		q := cloneMemory(m)
		turn(&q)
		out = append(out, q)
	}
	for i := range memoryInts(m) {
		for _, n := range append(edgeNumbers(), 0, 1, 2, 3, 4, 5, 6, 7, 16, 17, 18, 39, 40, 90, 91, 92, 1000, 1001, impl.MaxId, impl.MaxId+1, 1<<31-1, 1<<31, -1<<31, -1<<31-1) {
			add(func(q *impl.Memory) { *memoryInts(*q)[i] = n })
		}
	}
	for i := range memoryFlags(m) {
		add(func(q *impl.Memory) { *memoryFlags(*q)[i] = !*memoryFlags(*q)[i] })
	}
	for _, list := range turnedLists(m.Objects) {
		add(func(q *impl.Memory) { q.Objects = list })
	}
	for _, list := range turnedLists(m.Locks) {
		add(func(q *impl.Memory) { q.Locks = list })
	}
	for i, o := range m.Objects {
		for _, list := range turnedLists(o.Fields) {
			add(func(q *impl.Memory) { q.Objects[i].Fields = list })
		}
	}
	for i := range out {
		out[i] = cloneMemory(out[i])
	}
	return out
}

func TestMemoryOkOfTurnedMemories(t *testing.T) {
	p := memoryProg(t)
	var counts [2]int
	for _, m := range turnedMemories(memoryOf(someMemory)) {
		right := memoryRight(p, m)
		if impl.MemoryOk(p, m) != right {
			t.Fatalf("MemoryOk of %s is %v", tellMemory(m), !right)
		}
		counts[flagVal(right).N]++
	}
	if counts[0] < 500 || counts[1] < 200 {
		t.Errorf("%v", counts)
	}
}

// otherProgs are one turn away from p, or twisted, or have no class.
func otherProgs(p impl.Prog) []impl.Prog {
	return append(append(wrongTurns(p), listTurns(p)...), append(twistedProgs(), impl.Prog{})...)
}

// MemoryOk asks of a program only for its classes and their fields: whatever else it is, does not count.
func TestMemoryOkOfOtherPrograms(t *testing.T) {
	var counts [2]int
	p := memoryProg(t)
	for _, q := range otherProgs(p) {
		for _, told := range []string{"", someMemory, "7.0 5 @0", "7.0", "1.3 | 1 2 3", "1.3; 2.3", "4.1 0 @4 @0 5", "4.5 @0 @0", "4.5 @0 @0 | 5 1 1"} {
			m := memoryOf(told)
			right := memoryRight(q, m)
			if impl.MemoryOk(q, m) != right {
				t.Fatalf("%+v: MemoryOk of %s is %v", q, told, !right)
			}
			counts[flagVal(right).N]++
		}
	}
	if counts[0] < 1000 || counts[1] < 1000 {
		t.Errorf("%v", counts)
	}
	// A field's type that is no class is none of words, either.
	q := cloneProg(p)
	q.Kinds[0].Fields[0].Type = "None"
	wantMemoryOk(t, q, true, "1.0 @0 @0")
	wantMemoryOk(t, q, false, "1.0 0 @0")
}

// wantMemory: what is told, and whether it was done.
func wantMemory(t *testing.T, what string, got impl.Memory, ok bool, told string, does bool) {
	t.Helper()
	if ok != does || !sameMemory(got, memoryOf(told)) {
		t.Errorf("%s: %s, %v in place of %s, %v", what, tellMemory(got), ok, told, does)
	}
}

func wantMade(t *testing.T, p impl.Prog, was string, id, class int, told string) {
	t.Helper()
	m := memoryOf(was)
	got, ok := impl.Make(p, m, id, class)
	wantMemory(t, fmt.Sprintf("Make of %d, class %d, in %s", id, class, was), got, ok, told, true)
	if memoryRight(p, m) && !impl.MemoryOk(p, got) {
		t.Errorf("Make of %d, class %d, in %s is not right", id, class, was)
	}
}

func TestMake(t *testing.T) {
	p := memoryProg(t)
	for class, values := range []string{"0 @0", "0 @0 @0 0", "0 @0 @0 0 @0", "", "0 0 @0 0 @0 @0 @0 0", "@0 @0"} {
		for _, id := range []int{1, 2, 17, impl.MaxId - 1, impl.MaxId} {
			wantMade(t, p, "", id, class, fmt.Sprintf("%d.%d %s", id, class, values))
		}
		// Ahead of, between and behind others.
		wantMade(t, p, "5.3; 9.3", 1, class, fmt.Sprintf("1.%d %s; 5.3; 9.3", class, values))
		wantMade(t, p, "5.3; 9.3", 4, class, fmt.Sprintf("4.%d %s; 5.3; 9.3", class, values))
		wantMade(t, p, "5.3; 9.3", 6, class, fmt.Sprintf("5.3; 6.%d %s; 9.3", class, values))
		wantMade(t, p, "5.3; 9.3", 8, class, fmt.Sprintf("5.3; 8.%d %s; 9.3", class, values))
		wantMade(t, p, "5.3; 9.3", 10, class, fmt.Sprintf("5.3; 9.3; 10.%d %s", class, values))
		wantMade(t, p, "5.3; 9.3", impl.MaxId, class, fmt.Sprintf("5.3; 9.3; 1000000.%d %s", class, values))
	}
	// What is there stays: fields and locks.
	wantMade(t, p, "2.0 5 @17; 17.1 -7 @17 @40 8 | 2 3 1; 17 4 2", 3, 0, "2.0 5 @17; 3.0 0 @0; 17.1 -7 @17 @40 8 | 2 3 1; 17 4 2")
	wantMade(t, p, "2.0 5 @17; 17.1 -7 @17 @40 8 | 2 3 1; 17 4 2", 1, 3, "1.3; 2.0 5 @17; 17.1 -7 @17 @40 8 | 2 3 1; 17 4 2")
	wantMade(t, p, "2.0 5 @17; 17.1 -7 @17 @40 8 | 2 3 1; 17 4 2", 18, 5, "2.0 5 @17; 17.1 -7 @17 @40 8; 18.5 @0 @0 | 2 3 1; 17 4 2")
	// A program that is not in order has classes, too.
	q := impl.Prog{Kinds: []impl.Kind{{Fields: []impl.Field{{Type: "None"}, {Type: "I"}}}}}
	wantMade(t, q, "", 4, 0, "4.0 @0 0")
}

// wantUnmade: as it was and false.
func wantUnmade(t *testing.T, p impl.Prog, was string, id, class int) {
	t.Helper()
	got, ok := impl.Make(p, memoryOf(was), id, class)
	wantMemory(t, fmt.Sprintf("Make of %d, class %d", id, class), got, ok, was, false)
}

func TestMakeOfNone(t *testing.T) {
	p := memoryProg(t)
	wrongIds := append(edgeNumbers(), 0, impl.MaxId+1, impl.MaxId+2, 1<<32+3)
	wrongClasses := append(edgeNumbers(), 6, 7, 256, 1<<32+3)
	for _, was := range []string{"", "3.3", someMemory} {
		for class := range 6 {
			for _, id := range wrongIds {
				wantUnmade(t, p, was, id, class)
			}
		}
		for _, class := range wrongClasses {
			for _, id := range []int{1, 3, 100, impl.MaxId} {
				wantUnmade(t, p, was, id, class)
			}
			for _, id := range wrongIds {
				wantUnmade(t, p, was, id, class)
			}
		}
		// One that there is, of its own class and of others.
		for _, o := range memoryOf(was).Objects {
			for class := -1; class <= 6; class++ {
				wantUnmade(t, p, was, o.Id, class)
			}
		}
	}
	for class := -1; class <= 1; class++ {
		wantUnmade(t, impl.Prog{}, "3.3 | 3 3 3", 4, class)
	}
	// In what is not right, too.
	for _, was := range []string{"5.3; 4.3", "5.3; 5.0 0 @0", "4.9 7 7; 5.3 | 8 0 0"} {
		wantUnmade(t, p, was, 5, 0)
		wantUnmade(t, p, was, 0, 0)
		wantUnmade(t, p, was, 9, 6)
	}
	wantUnmade(t, p, "0.3; -5.3", -5, 3)
}

// Find answers each object as it is, and none where there is none.
func wantFound(t *testing.T, m impl.Memory, id int, told string) {
	t.Helper()
	var want impl.Object
	for _, o := range memoryOf(told).Objects {
		want = o
	}
	if got, ok := impl.Find(m, id); ok != (told != "") || !sameObject(got, want) {
		t.Errorf("Find of %d is %+v, %v in place of %s", id, got, ok, told)
	}
}

func TestFind(t *testing.T) {
	m := memoryOf(someMemory)
	objects, _ := twoLists(someMemory)
	for i, told := range objects {
		wantFound(t, m, m.Objects[i].Id, told)
	}
	for _, id := range append(edgeNumbers(), 0, 1, 3, 16, 18, 39, 42, 89, 92, impl.MaxId, impl.MaxId+1) {
		wantFound(t, m, id, "")
		wantFound(t, impl.Memory{}, id, "")
		wantFound(t, memoryOf("| 0 1 1; 1 1 1"), id, "")
	}
	wantFound(t, memoryOf("1.3; 1000000.0 5 @0"), 1, "1.3")
	wantFound(t, memoryOf("1.3; 1000000.0 5 @0"), impl.MaxId, "1000000.0 5 @0")
}

// Of two objects of one number the first one is found, read and written, wherever they stand.
func TestFirstOfTwoObjects(t *testing.T) {
	p := memoryProg(t)
	for _, x := range []struct{ was, first, written string }{
		{"5.0 1 @0; 5.0 2 @5", "5.0 1 @0", "5.0 7 @0; 5.0 2 @5"},
		{"4.3; 5.1 2 @0 @0 3; 5.0 1 @0; 6.3", "5.1 2 @0 @0 3", "4.3; 5.1 7 @0 @0 3; 5.0 1 @0; 6.3"},
		{"9.3; 5.0 1 @0; 2.3; 5.0 2 @5; 5.0 3 @5", "5.0 1 @0", "9.3; 5.0 7 @0; 2.3; 5.0 2 @5; 5.0 3 @5"},
		{"5.0 1 @0; 9.3; 5.1 2 @0 @0 3", "5.0 1 @0", "5.0 7 @0; 9.3; 5.1 2 @0 @0 3"},
	} {
		m := memoryOf(x.was)
		wantFound(t, m, 5, x.first)
		got, ok := impl.Write(m, 5, 0, wordVal(7))
		wantMemory(t, "Write in "+x.was, got, ok, x.written, true)
		if v, ok := impl.Read(m, 5, 0); !ok || v != m.Objects[slices.IndexFunc(m.Objects, func(o impl.Object) bool { return o.Id == 5 })].Fields[0] {
			t.Errorf("Read in %s is %+v, %v", x.was, v, ok)
		}
		if impl.MemoryOk(p, m) {
			t.Errorf("%s is right", x.was)
		}
	}
	// A field that only the second one has, is none.
	m := memoryOf("5.3; 5.0 1 @0")
	wantFound(t, m, 5, "5.3")
	wantNoField(t, m, 5, 0)
	// Objects whose number is none are found, where they are.
	wantFound(t, memoryOf("-3.3; 0.0 8 @0; 2000000.0 9 @0"), 0, "0.0 8 @0")
	wantFound(t, memoryOf("-3.3; 0.0 8 @0; 2000000.0 9 @0"), -3, "-3.3")
	wantFound(t, memoryOf("-3.3; 0.0 8 @0; 2000000.0 9 @0"), 2000000, "2000000.0 9 @0")
}

// wantNoField: nothing is read and nothing is written.
func wantNoField(t *testing.T, m impl.Memory, id, at int) {
	t.Helper()
	if v, ok := impl.Read(m, id, at); ok || v != (impl.Val{}) {
		t.Fatalf("Read of field %d of %d is %+v, %v", at, id, v, ok)
	}
	for _, v := range []impl.Val{{}, wordVal(5), refVal(0), refVal(7)} {
		got, ok := impl.Write(m, id, at, v)
		if ok || !sameMemory(got, m) {
			t.Fatalf("Write of field %d of %d is %s, %v", at, id, tellMemory(got), ok)
		}
	}
}

func TestFieldsThatThereAreNot(t *testing.T) {
	m := memoryOf(someMemory)
	for _, o := range m.Objects {
		many := len(o.Fields)
		for _, at := range append(edgeNumbers(), many, many+1, 8, 100, 1<<32+1) {
			wantNoField(t, m, o.Id, at)
		}
	}
	for _, id := range append(edgeNumbers(), 0, 1, 3, 16, 18, 39, 42, 89, 92, impl.MaxId, impl.MaxId+1) {
		for at := -1; at <= 8; at++ {
			wantNoField(t, m, id, at)
			wantNoField(t, impl.Memory{}, id, at)
		}
	}
}

// P15: what is written is read; every other field of every object is what it was, and so is every lock.
func TestWhatIsWrittenIsRead(t *testing.T) {
	p := memoryProg(t)
	m := memoryOf(someMemory)
	written := 0
	for i, o := range m.Objects {
		for at, was := range o.Fields {
			values := []impl.Val{wordVal(6), wordVal(0), wordVal(-1 << 31), wordVal(1<<31 - 1), was}
			if was.Ref {
				values = []impl.Val{refVal(6), refVal(0), refVal(impl.MaxId), was}
			}
			for _, v := range values {
				got, ok := impl.Write(m, o.Id, at, v)
				want := memoryOf(someMemory)
				want.Objects[i].Fields[at] = v
				if !ok || !sameMemory(got, want) || !impl.MemoryOk(p, got) {
					t.Fatalf("Write of field %d of %d is %s, %v", at, o.Id, tellMemory(got), ok)
				}
				wantAllRead(t, got, want)
				written++
			}
		}
	}
	if written < 80 {
		t.Errorf("%d written", written)
	}
	wantAllRead(t, m, memoryOf(someMemory))
}

// wantAllRead: each field of each object is read as it stands in want, whose objects are all there are.
func wantAllRead(t *testing.T, m, want impl.Memory) {
	t.Helper()
	for _, o := range want.Objects {
		for at, v := range o.Fields {
			if got, ok := impl.Read(m, o.Id, at); !ok || got != v {
				t.Fatalf("Read of field %d of %d is %+v, %v in place of %+v", at, o.Id, got, ok, v)
			}
		}
		if got, ok := impl.Find(m, o.Id); !ok || !sameObject(got, o) {
			t.Fatalf("Find of %d is %+v, %v", o.Id, got, ok)
		}
	}
}

func TestWriteAtTheFirstAndAtTheLastField(t *testing.T) {
	was := "5.0 1 @2; 6.4 1 2 @3 4 @5 @6 @7 8; 7.5 @1 @2 | 6 3 1"
	for _, x := range []struct {
		id, at int
		v      impl.Val
		told   string
	}{
		{5, 0, wordVal(9), "5.0 9 @2; 6.4 1 2 @3 4 @5 @6 @7 8; 7.5 @1 @2 | 6 3 1"},
		{5, 1, refVal(9), "5.0 1 @9; 6.4 1 2 @3 4 @5 @6 @7 8; 7.5 @1 @2 | 6 3 1"},
		{6, 0, wordVal(9), "5.0 1 @2; 6.4 9 2 @3 4 @5 @6 @7 8; 7.5 @1 @2 | 6 3 1"},
		{6, 2, refVal(0), "5.0 1 @2; 6.4 1 2 @0 4 @5 @6 @7 8; 7.5 @1 @2 | 6 3 1"},
		{6, 7, wordVal(9), "5.0 1 @2; 6.4 1 2 @3 4 @5 @6 @7 9; 7.5 @1 @2 | 6 3 1"},
		{7, 0, refVal(9), "5.0 1 @2; 6.4 1 2 @3 4 @5 @6 @7 8; 7.5 @9 @2 | 6 3 1"},
		{7, 1, refVal(9), "5.0 1 @2; 6.4 1 2 @3 4 @5 @6 @7 8; 7.5 @1 @9 | 6 3 1"},
		// Write is not told of any class: whatever is written, is read.
		{5, 0, refVal(9), "5.0 @9 @2; 6.4 1 2 @3 4 @5 @6 @7 8; 7.5 @1 @2 | 6 3 1"},
		{5, 1, wordVal(9), "5.0 1 9; 6.4 1 2 @3 4 @5 @6 @7 8; 7.5 @1 @2 | 6 3 1"},
		{5, 0, wordVal(1 << 31), "5.0 2147483648 @2; 6.4 1 2 @3 4 @5 @6 @7 8; 7.5 @1 @2 | 6 3 1"},
		{5, 1, refVal(-1), "5.0 1 @-1; 6.4 1 2 @3 4 @5 @6 @7 8; 7.5 @1 @2 | 6 3 1"},
	} {
		got, ok := impl.Write(memoryOf(was), x.id, x.at, x.v)
		wantMemory(t, fmt.Sprintf("Write of %+v at field %d of %d", x.v, x.at, x.id), got, ok, x.told, true)
		if v, ok := impl.Read(got, x.id, x.at); !ok || v != x.v {
			t.Errorf("Read of field %d of %d is %+v, %v", x.at, x.id, v, ok)
		}
	}
	// The first field is the last one.
	got, ok := impl.Write(memoryOf("5.0 1"), 5, 0, wordVal(2))
	wantMemory(t, "Write of the only field", got, ok, "5.0 2", true)
}

// A hold is a call of Hold, or of Unlock, and what is told of the locks then.
type hold struct {
	lets    bool
	id, who int
	ok      bool
	told    string
}

// wantHolds goes on from no lock; the objects stay as they are.
func wantHolds(t *testing.T, p impl.Prog, objects string, list []hold) {
	t.Helper()
	m := memoryOf(objects)
	was := ""
	for i, x := range list {
		ask := impl.Hold
		if x.lets {
			ask = impl.Unlock
		}
		if !x.ok && x.told == "" {
			x.told = was
		}
		got, ok := ask(m, x.id, x.who)
		wantMemory(t, fmt.Sprintf("%d: %+v", i, x), got, ok, objects+" | "+x.told, x.ok)
		if !impl.MemoryOk(p, got) {
			t.Errorf("%d: %+v: %s is not right", i, x, tellMemory(got))
		}
		m, was = got, x.told
	}
}

func TestOneMonitor(t *testing.T) {
	p := memoryProg(t)
	wantHolds(t, p, "4.3; 7.0 5 @4; 9.3", []hold{
		{true, 7, 3, false, ""},
		{false, 7, 3, true, "7 3 1"},
		{false, 7, 4, false, ""},
		{true, 7, 4, false, ""},
		{false, 7, 3, true, "7 3 2"},
		{false, 7, 4, false, ""},
		{true, 7, 4, false, ""},
		{true, 4, 3, false, ""},
		{false, 7, 3, true, "7 3 3"},
		{true, 7, 3, true, "7 3 2"},
		{true, 7, 3, true, "7 3 1"},
		{false, 7, 2, false, ""},
		{false, 8, 3, false, ""},
		{true, 7, 3, true, ""},
		{true, 7, 3, false, ""},
		{false, 7, 4, true, "7 4 1"},
		{false, 7, 3, false, ""},
		{true, 7, 3, false, ""},
		{true, 7, 4, true, ""},
	})
}

// Ahead of, between and behind others; one may hold several.
func TestMonitorsOfSeveralObjects(t *testing.T) {
	p := memoryProg(t)
	wantHolds(t, p, "1.3; 4.3; 7.0 5 @4; 9.3; 12.3; 1000000.3", []hold{
		{false, 7, 3, true, "7 3 1"},
		{false, 4, 3, true, "4 3 1; 7 3 1"},
		{false, 12, 5, true, "4 3 1; 7 3 1; 12 5 1"},
		{false, 9, 3, true, "4 3 1; 7 3 1; 9 3 1; 12 5 1"},
		{false, 1, 1, true, "1 1 1; 4 3 1; 7 3 1; 9 3 1; 12 5 1"},
		{false, 1000000, 1000000, true, "1 1 1; 4 3 1; 7 3 1; 9 3 1; 12 5 1; 1000000 1000000 1"},
		{false, 9, 3, true, "1 1 1; 4 3 1; 7 3 1; 9 3 2; 12 5 1; 1000000 1000000 1"},
		{false, 1, 1, true, "1 1 2; 4 3 1; 7 3 1; 9 3 2; 12 5 1; 1000000 1000000 1"},
		{false, 1000000, 1000000, true, "1 1 2; 4 3 1; 7 3 1; 9 3 2; 12 5 1; 1000000 1000000 2"},
		{true, 12, 3, false, "1 1 2; 4 3 1; 7 3 1; 9 3 2; 12 5 1; 1000000 1000000 2"},
		{false, 12, 3, false, "1 1 2; 4 3 1; 7 3 1; 9 3 2; 12 5 1; 1000000 1000000 2"},
		{true, 7, 3, true, "1 1 2; 4 3 1; 9 3 2; 12 5 1; 1000000 1000000 2"},
		{true, 9, 3, true, "1 1 2; 4 3 1; 9 3 1; 12 5 1; 1000000 1000000 2"},
		{true, 1, 1, true, "1 1 1; 4 3 1; 9 3 1; 12 5 1; 1000000 1000000 2"},
		{true, 1, 1, true, "4 3 1; 9 3 1; 12 5 1; 1000000 1000000 2"},
		{true, 1000000, 1000000, true, "4 3 1; 9 3 1; 12 5 1; 1000000 1000000 1"},
		{true, 1000000, 1000000, true, "4 3 1; 9 3 1; 12 5 1"},
		{true, 4, 3, true, "9 3 1; 12 5 1"},
		{false, 7, 5, true, "7 5 1; 9 3 1; 12 5 1"},
		{true, 12, 5, true, "7 5 1; 9 3 1"},
		{true, 7, 5, true, "9 3 1"},
		{true, 9, 3, true, ""},
	})
}

// MaxCount is met, and not passed; who lets go as often, holds nothing.
func TestHoldUpToMaxCount(t *testing.T) {
	p := memoryProg(t)
	m := memoryOf("4.3; 7.3 | 4 5 1")
	for count := 1; count <= impl.MaxCount; count++ {
		var ok bool
		m, ok = impl.Hold(m, 7, 3)
		wantMemory(t, fmt.Sprint("Hold to ", count), m, ok, fmt.Sprint("4.3; 7.3 | 4 5 1; 7 3 ", count), true)
	}
	for range 3 {
		got, ok := impl.Hold(m, 7, 3)
		wantMemory(t, "Hold above MaxCount", got, ok, "4.3; 7.3 | 4 5 1; 7 3 1000", false)
		got, ok = impl.Hold(m, 7, 4)
		wantMemory(t, "Hold of another one", got, ok, "4.3; 7.3 | 4 5 1; 7 3 1000", false)
	}
	got, ok := impl.Hold(m, 4, 5)
	wantMemory(t, "Hold of the other monitor", got, ok, "4.3; 7.3 | 4 5 2; 7 3 1000", true)
	if !impl.MemoryOk(p, m) {
		t.Error("MaxCount")
	}
	for count := impl.MaxCount - 1; count > 0; count-- {
		var ok bool
		m, ok = impl.Unlock(m, 7, 3)
		wantMemory(t, fmt.Sprint("Unlock to ", count), m, ok, fmt.Sprint("4.3; 7.3 | 4 5 1; 7 3 ", count), true)
	}
	m, ok = impl.Unlock(m, 7, 3)
	wantMemory(t, "Unlock to none", m, ok, "4.3; 7.3 | 4 5 1", true)
	m, ok = impl.Unlock(m, 7, 3)
	wantMemory(t, "Unlock of none", m, ok, "4.3; 7.3 | 4 5 1", false)
}

// wantNoHold: as it was and false.
func wantNoHold(t *testing.T, was string, id, who int) {
	t.Helper()
	got, ok := impl.Hold(memoryOf(was), id, who)
	wantMemory(t, fmt.Sprintf("Hold of %d by %d", id, who), got, ok, was, false)
}

func wantNoUnlock(t *testing.T, was string, id, who int) {
	t.Helper()
	got, ok := impl.Unlock(memoryOf(was), id, who)
	wantMemory(t, fmt.Sprintf("Unlock of %d by %d", id, who), got, ok, was, false)
}

func TestMonitorsThatAreNotHeld(t *testing.T) {
	for _, id := range append(edgeNumbers(), 0, 1, 3, 16, 18, 92, impl.MaxId, impl.MaxId+1) {
		for _, who := range append(edgeNumbers(), 0, 1, 3, impl.MaxId, impl.MaxId+1) {
			wantNoHold(t, someMemory, id, who)
			wantNoHold(t, "", id, who)
			wantNoUnlock(t, someMemory, id, who)
			wantNoUnlock(t, "", id, who)
		}
	}
	// An object that there is, which another one holds, or nobody.
	for _, who := range append(edgeNumbers(), 0, 1, 2, 4, 17, 999999, impl.MaxId+1) {
		for _, id := range []int{2, 17, 90} {
			wantNoHold(t, someMemory, id, who)
			wantNoUnlock(t, someMemory, id, who)
		}
		for _, id := range []int{40, 41, 91} {
			wantNoUnlock(t, someMemory, id, who)
		}
	}
	wantNoUnlock(t, someMemory, 90, 3)
	wantNoUnlock(t, someMemory, 2, impl.MaxId)
	// Who has MaxCount.
	wantNoHold(t, someMemory, 90, impl.MaxId)
}

// What is not right by MemoryOk is gone on with by the chapter's words: nothing but them is asked for.
func TestMonitorsOfWrongMemories(t *testing.T) {
	// A lock of no object is no more held, but let go.
	wantNoHold(t, "4.3 | 7 3 1", 7, 3)
	got, ok := impl.Unlock(memoryOf("4.3 | 7 3 1"), 7, 3)
	wantMemory(t, "Unlock of no object", got, ok, "4.3", true)
	// Two locks of one monitor: another one holds it, for each of both.
	for who := range 6 {
		wantNoHold(t, "7.3 | 7 3 1; 7 4 1", 7, who)
	}
	got, ok = impl.Unlock(memoryOf("7.3 | 7 3 1; 7 4 2"), 7, 4)
	wantMemory(t, "Unlock of the second one", got, ok, "7.3 | 7 3 1; 7 4 1", true)
	// Far too often, and less than once.
	wantNoHold(t, "7.3 | 7 3 1001", 7, 3)
	wantNoHold(t, "7.3 | 7 3 9223372036854775807", 7, 3)
	got, ok = impl.Unlock(memoryOf("7.3 | 7 3 9223372036854775807"), 7, 3)
	wantMemory(t, "Unlock of far too many", got, ok, "7.3 | 7 3 9223372036854775806", true)
	for _, count := range []int{0, -1, math.MinInt} {
		got, ok = impl.Unlock(memoryOf(fmt.Sprint("7.3 | 7 3 ", count)), 7, 3)
		wantMemory(t, "Unlock of less than one", got, ok, "7.3", true)
		got, ok = impl.Hold(memoryOf(fmt.Sprint("7.3 | 7 3 ", count)), 7, 3)
		wantMemory(t, "Hold of less than one", got, ok, fmt.Sprint("7.3 | 7 3 ", count+1), true)
	}
	// Who is no number of an object.
	for _, who := range []int{0, -5, impl.MaxId + 1} {
		got, ok = impl.Hold(memoryOf("7.3; 8.3 | 8 1 1"), 7, who)
		wantMemory(t, "Hold of nobody", got, ok, fmt.Sprintf("7.3; 8.3 | 7 %d 1; 8 1 1", who), true)
		got, ok = impl.Unlock(got, 7, who)
		wantMemory(t, "Unlock of nobody", got, ok, "7.3; 8.3 | 8 1 1", true)
	}
	// An object whose number is none has a monitor, too.
	got, ok = impl.Hold(memoryOf("-7.3; 8.3 | 8 1 1"), -7, 3)
	wantMemory(t, "Hold of a number below 1", got, ok, "-7.3; 8.3 | -7 3 1; 8 1 1", true)
}

// A memoryBook keeps objects and monitors without any order.
type memoryBook struct {
	p       impl.Prog
	objects map[int]impl.Object
	locks   map[int]impl.Lock
}

func newMemoryBook(p impl.Prog) memoryBook {
	return memoryBook{p, map[int]impl.Object{}, map[int]impl.Lock{}}
}

func (x memoryBook) memory() impl.Memory {
	var m impl.Memory
	for _, id := range slices.Sorted(maps.Keys(x.objects)) {
		m.Objects = append(m.Objects, x.objects[id])
	}
	for _, id := range slices.Sorted(maps.Keys(x.locks)) {
		m.Locks = append(m.Locks, x.locks[id])
	}
	return m
}

func (x memoryBook) makes(id, class int) bool {
	if _, there := x.objects[id]; there || id < 1 || id > 1000000 || class < 0 || class >= len(x.p.Kinds) {
		return false
	}
	x.objects[id] = impl.Object{Id: id, Class: class, Fields: freshThere(x.p, class)}
	return true
}

func (x memoryBook) reads(id, at int) (impl.Val, bool) {
	if fields := x.objects[id].Fields; at >= 0 && at < len(fields) {
		return fields[at], true
	}
	return impl.Val{}, false
}

func (x memoryBook) writes(id, at int, v impl.Val) bool {
	_, ok := x.reads(id, at)
	if ok {
		x.objects[id].Fields[at] = v
	}
	return ok
}

func (x memoryBook) holds(id, who int) bool {
	l, held := x.locks[id]
	if _, there := x.objects[id]; !there || held && (l.Who != who || l.Count >= 1000) {
		return false
	}
	x.locks[id] = impl.Lock{Id: id, Who: who, Count: l.Count + 1}
	return true
}

func (x memoryBook) lets(id, who int) bool {
	l, held := x.locks[id]
	if !held || l.Who != who {
		return false
	}
	if l.Count--; l.Count == 0 {
		delete(x.locks, id)
	} else {
		x.locks[id] = l
	}
	return true
}

// A memoryRun goes on with a memory, beside a book of it.
type memoryRun struct {
	dice
	book        memoryBook
	m           impl.Memory
	ids         []int
	done, tried [5]int
}

// step does one thing to both.
func (x *memoryRun) step(t *testing.T) {
	t.Helper()
	id, who, at := x.ids[x.below(len(x.ids))], 1+x.below(3), x.below(10)-1
	deed := []int{0, 1, 1, 1, 2, 3, 3, 4, 4}[x.below(9)]
	var got impl.Memory
	var ok, want bool
	switch deed {
	case 0:
		class := x.below(8) - 1
		want = x.book.makes(id, class)
		got, ok = impl.Make(x.book.p, x.m, id, class)
	case 1:
		v := map[bool]impl.Val{true: refVal(min(x.ids[x.below(len(x.ids))], impl.MaxId)), false: wordVal(x.below(1<<16) - 1<<15)}
		was, there := x.book.reads(id, at)
		want = x.book.writes(id, at, v[was.Ref])
		got, ok = impl.Write(x.m, id, at, v[was.Ref])
		if there != want {
			t.Fatal("the book")
		}
	case 2:
		v, there := x.book.reads(id, at)
		got, want = x.m, there
		var read impl.Val
		if read, ok = impl.Read(x.m, id, at); read != v {
			t.Fatalf("%s: Read of field %d of %d is %+v in place of %+v", tellMemory(x.m), at, id, read, v)
		}
	case 3:
		want = x.book.holds(id, who)
		got, ok = impl.Hold(x.m, id, who)
	case 4:
		want = x.book.lets(id, who)
		got, ok = impl.Unlock(x.m, id, who)
	}
	if ok != want || !sameMemory(got, x.book.memory()) || !impl.MemoryOk(x.book.p, got) {
		t.Fatalf("%s: deed %d of %d, %d, %d is %s, %v in place of %s, %v", tellMemory(x.m), deed, id, who, at, tellMemory(got), ok, tellMemory(x.book.memory()), want)
	}
	x.m = got
	x.tried[deed]++
	x.done[deed] += flagVal(ok).N
}

// P15: whatever is made, written, held and let go, in whatever order, is as one book without any order has it; and it stays right.
func TestMemoryIsAsABookOfIt(t *testing.T) {
	p := memoryProg(t)
	var done, tried [5]int
	for seed := range 40 {
		x := memoryRun{dice: dice(1500 + seed), book: newMemoryBook(p), ids: []int{0, 1, 2, 3, 5, 17, 18, 90, 400, 70000, impl.MaxId - 1, impl.MaxId, impl.MaxId + 1}}
		for range 400 {
			x.step(t)
		}
		wantAllRead(t, x.m, x.book.memory())
		for i := range done {
			done[i], tried[i] = done[i]+x.done[i], tried[i]+x.tried[i]
		}
	}
	for i := range done {
		if done[i] < 300 || tried[i]-done[i] < 300 {
			t.Errorf("deed %d is done %d times of %d", i, done[i], tried[i])
		}
	}
}

// In whichever order objects are made and monitors are held, it is one memory.
func TestMemoryInAnyOrder(t *testing.T) {
	p := memoryProg(t)
	d := dice(151)
	ids := []int{1, 2, 3, 40, 41, 999, 1000, 131071, impl.MaxId}
	for range 300 {
		for i := range ids {
			k := d.below(i + 1)
			ids[i], ids[k] = ids[k], ids[i]
		}
		var m impl.Memory
		for _, id := range ids {
			m, _ = impl.Make(p, m, id, id%6)
		}
		for i := range ids {
			k := d.below(i + 1)
			ids[i], ids[k] = ids[k], ids[i]
		}
		for _, id := range ids {
			m, _ = impl.Hold(m, id, id)
		}
		const told = "1.1 0 @0 @0 0; 2.2 0 @0 @0 0 @0; 3.3; 40.4 0 0 @0 0 @0 @0 @0 0; 41.5 @0 @0; 999.3; 1000.4 0 0 @0 0 @0 @0 @0 0; 131071.1 0 @0 @0 0; 1000000.4 0 0 @0 0 @0 @0 @0 0" +
			" | 1 1 1; 2 2 1; 3 3 1; 40 40 1; 41 41 1; 999 999 1; 1000 1000 1; 131071 131071 1; 1000000 1000000 1"
		wantMemory(t, fmt.Sprint(ids), m, true, told, true)
		if !impl.MemoryOk(p, m) {
			t.Fatal(tellMemory(m))
		}
	}
}

// manyObjects are right, each with its monitor held.
func manyObjects(n int) impl.Memory {
	m := impl.Memory{Objects: make([]impl.Object, n), Locks: make([]impl.Lock, n)}
	for i := range n {
		m.Objects[i] = impl.Object{Id: i + 1, Class: 3}
		m.Locks[i] = impl.Lock{Id: i + 1, Who: 1 + i%3, Count: 1}
	}
	return m
}

// P33: what is far too much is answered, too.
func TestMemoriesThatAreFarTooGreat(t *testing.T) {
	t.Parallel()
	const many = 1 << 18
	p := memoryProg(t)
	m := manyObjects(many)
	if !impl.MemoryOk(p, m) {
		t.Error("many objects")
	}
	got, ok := impl.Make(p, m, impl.MaxId, 3)
	if !ok || len(got.Objects) != many+1 || !impl.MemoryOk(p, got) {
		t.Error("Make")
	}
	got, ok = impl.Hold(m, many, m.Locks[many-1].Who)
	if !ok || got.Locks[many-1].Count != 2 || !impl.MemoryOk(p, got) {
		t.Error("Hold")
	}
	got, ok = impl.Unlock(m, many/2, m.Locks[many/2-1].Who)
	if !ok || len(got.Locks) != many-1 || !impl.MemoryOk(p, got) {
		t.Error("Unlock")
	}
	m.Locks[many-1].Id = many + 1
	if impl.MemoryOk(p, m) {
		t.Error("a last lock of no object")
	}
	m = manyObjects(many)
	m.Objects[many-1].Fields = make([]impl.Val, many)
	if impl.MemoryOk(p, m) {
		t.Error("many fields")
	}
	if got, ok := impl.Write(m, many, many-1, wordVal(5)); !ok || got.Objects[many-1].Fields[many-1] != wordVal(5) {
		t.Error("Write")
	}
	if impl.MemoryOk(p, impl.Memory{Objects: make([]impl.Object, many), Locks: make([]impl.Lock, many)}) || impl.MemoryOk(impl.Prog{}, manyObjects(many)) {
		t.Error("wrong ones")
	}
	q := impl.Prog{Kinds: []impl.Kind{{Fields: make([]impl.Field, many)}}}
	if got, ok := impl.Make(q, impl.Memory{}, 1, 0); !ok || len(got.Objects[0].Fields) != many || !impl.MemoryOk(q, got) || len(impl.Fresh(q, 0)) != many {
		t.Error("a class of many fields")
	}
	if impl.Fresh(impl.Prog{Kinds: make([]impl.Kind, many)}, many-1) != nil {
		t.Error("many classes")
	}
}

// memoriesForMemory: right and wrong ones; in some, two objects have the same list.
func memoriesForMemory() []impl.Memory {
	var list []impl.Memory
	for _, told := range []string{
		"", someMemory, "7.0 5 @0", "7.0 5 @0; 9.0 6 @7 | 7 3 1", "7.3 | 7 3 2", "7.3; 9.3 | 7 3 1000; 9 3 1", "7.3; 9.3 | 7 4 1; 9 3 1", "9.3; 7.3 | 9 3 1; 7 3 1",
		"7.0 5 @0; 7.0 6 @0", "7.9 5", "7.0 @5 6 7", "-1.0; 0.3", "| 7 3 1", "7.3 | 7 3 1; 7 4 1", "7.3 | 7 3 0", "6.3; 8.3; 9.0 5 @9 | 6 1 1; 8 1 1; 9 1 1",
	} {
		list = append(list, memoryOf(told))
	}
	shared := memoryOf("5.0 1 @0; 7.0 1 @0; 9.0 1 @0 | 7 3 2")
	for i := range shared.Objects {
		shared.Objects[i].Fields = shared.Objects[0].Fields
	}
	parts := memoryOf("5.0 1 @0; 7.0 1 @0; 9.0 1 @0")
	whole := valsOf("1 @0 1 @0 1 @0")
	for i := range parts.Objects {
		parts.Objects[i].Fields = whole[2*i : 2*i+2]
	}
	return append(list, shared, parts)
}

// roomyMemory has spare room behind each of its lists, and wholeMemory goes to the end of it.
func roomyMemory(m impl.Memory) impl.Memory {
	m = cloneMemory(m)
	for i, o := range m.Objects {
		m.Objects[i].Fields, _ = roomy(o.Fields, refVal(77))
	}
	m.Objects, _ = roomy(m.Objects, impl.Object{Id: 100, Class: 3})
	m.Locks, _ = roomy(m.Locks, impl.Lock{Id: 7, Who: 3, Count: 1})
	return m
}

func wholeMemory(m impl.Memory) impl.Memory {
	m.Objects, m.Locks = slices.Clone(m.Objects[:cap(m.Objects)]), m.Locks[:cap(m.Locks)]
	for i, o := range m.Objects {
		m.Objects[i].Fields = o.Fields[:cap(o.Fields)]
	}
	return m
}

func spoilMemory(m impl.Memory) {
	for _, o := range m.Objects[:cap(m.Objects)] {
		spoilAll(o.Fields, refVal(55))
	}
	spoilAll(m.Objects, impl.Object{Id: 55})
	spoilAll(m.Locks, impl.Lock{Id: 55})
}

// memoryApart: no two objects share memory, up to the end of their spare room.
func memoryApart(m impl.Memory) bool {
	var lists [][]impl.Val
	for _, o := range m.Objects[:cap(m.Objects)] {
		lists = append(lists, o.Fields[:cap(o.Fields)])
	}
	return marked(lists, func(v *impl.Val, n int) { v.N = n }, func(v impl.Val) int { return v.N })
}

// A memoryAsk makes a memory of one.
type memoryAsk struct {
	what string
	ask  func(p impl.Prog, m impl.Memory) impl.Memory
}

func memoryAsks() []memoryAsk {
	var list []memoryAsk
	add := func(what string, ask func(p impl.Prog, m impl.Memory) (impl.Memory, bool)) {
		list = append(list, memoryAsk{what, func(p impl.Prog, m impl.Memory) impl.Memory { got, _ := ask(p, m); return got }})
	}
	for _, id := range []int{0, 1, 5, 7, 8, 9, 91, impl.MaxId} {
		for _, class := range []int{-1, 0, 1, 3} {
			add(fmt.Sprint("Make of ", id, " of class ", class), func(p impl.Prog, m impl.Memory) (impl.Memory, bool) { return impl.Make(p, m, id, class) })
		}
		for _, at := range []int{-1, 0, 1, 4} {
			add(fmt.Sprint("Write of ", id, " at ", at), func(_ impl.Prog, m impl.Memory) (impl.Memory, bool) { return impl.Write(m, id, at, refVal(6)) })
		}
		for _, who := range []int{0, 3, 4} {
			add(fmt.Sprint("Hold of ", id, " by ", who), func(_ impl.Prog, m impl.Memory) (impl.Memory, bool) { return impl.Hold(m, id, who) })
			add(fmt.Sprint("Unlock of ", id, " by ", who), func(_ impl.Prog, m impl.Memory) (impl.Memory, bool) { return impl.Unlock(m, id, who) })
		}
		// What Find and Fresh answer is laid into a memory of its own.
		add(fmt.Sprint("Find of ", id), func(_ impl.Prog, m impl.Memory) (impl.Memory, bool) {
			o, ok := impl.Find(m, id)
			return impl.Memory{Objects: []impl.Object{o}}, ok
		})
		add(fmt.Sprint("Fresh of ", id), func(p impl.Prog, _ impl.Memory) (impl.Memory, bool) {
			return impl.Memory{Objects: []impl.Object{{Fields: impl.Fresh(p, id)}}}, true
		})
		add(fmt.Sprint("two of ", id), func(p impl.Prog, m impl.Memory) (impl.Memory, bool) {
			m, _ = impl.Make(p, m, id, 1)
			return impl.Make(p, m, id+1, 1)
		})
	}
	return list
}

func progsForMemory(t *testing.T) []impl.Prog {
	return append([]impl.Prog{memoryProg(t), {}, supersOf(1, 2, 0)}, twistedProgs()[:6]...)
}

// P33: an answer shares no memory with an argument, nor with another answer, nor do two objects of it with each other.
func TestMemoriesAreNewMemory(t *testing.T) {
	for _, p := range progsForMemory(t) {
		for i, m := range memoriesForMemory() {
			for _, x := range memoryAsks() {
				given := roomyMemory(m)
				if i%2 == 0 {
					// As it stands, with what its objects share.
					given = m
				}
				were, whole := cloneMemory(given), cloneMemory(wholeMemory(given))
				prog := roomyProg(p)
				first, second := x.ask(prog, given), x.ask(prog, given)
				want := cloneMemory(second)
				if !sameMemory(first, want) || !memoryApart(first) {
					t.Fatalf("two lists of what %s makes of %s share memory", x.what, tellMemory(m))
				}
				spoilMemory(first)
				if !sameMemory(second, want) || !sameMemory(given, were) || !sameMemory(wholeMemory(given), whole) || !sameProg(prog, p) {
					t.Fatalf("what %s makes of %s shares memory", x.what, tellMemory(m))
				}
				spoilProg(prog)
				given = cloneMemory(given)
				third := x.ask(cloneProg(p), given)
				spoilMemory(given)
				if !sameMemory(second, want) || !sameMemory(third, want) {
					t.Fatalf("what %s makes of %s shares memory with it", x.what, tellMemory(m))
				}
			}
		}
	}
}

// tellMemories: what the functions of this chapter answer to a program and a memory.
func tellMemories(p impl.Prog, m impl.Memory) string {
	var told strings.Builder
	fmt.Fprintln(&told, impl.MemoryOk(p, m))
	for _, x := range memoryAsks() {
		fmt.Fprintln(&told, x.what, tellMemory(x.ask(p, m)))
	}
	for id := -1; id <= 10; id++ {
		for at := -1; at <= 4; at++ {
			v, ok := impl.Read(m, id, at)
			fmt.Fprint(&told, v, ok)
		}
		_, made := impl.Make(p, m, id, 0)
		_, written := impl.Write(m, id, 0, wordVal(5))
		_, held := impl.Hold(m, id, 3)
		_, let := impl.Unlock(m, id, 3)
		o, found := impl.Find(m, id)
		fmt.Fprintln(&told, made, written, held, let, o, found)
	}
	return told.String()
}

// P33: neither a memory's lists, nor those of its objects, nor the spare room behind them are written; what stands there does not count.
func TestMemoriesAreNotWritten(t *testing.T) {
	for _, p := range progsForMemory(t) {
		for _, m := range memoriesForMemory() {
			given := roomyMemory(m)
			whole := cloneMemory(wholeMemory(given))
			if tellMemories(p, given) != tellMemories(p, cloneMemory(m)) {
				t.Fatalf("%s: an answer hangs on the room behind it", tellMemory(m))
			}
			if !sameMemory(wholeMemory(given), whole) || !sameMemory(given, m) {
				t.Fatalf("%s is written into", tellMemory(m))
			}
		}
	}
}

// tellAllMemories: of each memory, beside one program.
func tellAllMemories(p impl.Prog) string {
	var told strings.Builder
	for _, m := range memoriesForMemory() {
		fmt.Fprintln(&told, tellMemories(p, m))
	}
	return told.String()
}

// P33: neither the classes, nor their lists, nor the spare room behind them are written; what stands there does not count.
func TestMemoriesWriteNoProgram(t *testing.T) {
	t.Parallel()
	list := progsForMemory(t)
	for i, p := range listTurns(list[0]) {
		if i%6 == 0 {
			list = append(list, p)
		}
	}
	wantUnwritten(t, list, tellAllMemories)
}

func TestMemoriesKeepNothing(t *testing.T) {
	t.Parallel()
	wantToldAgain(t, progsForMemory(t)[:4], tellAllMemories)
	p := memoryProg(t)
	wantToldAgain(t, memoriesForMemory(), func(m impl.Memory) string { return tellMemories(p, m) })
}
