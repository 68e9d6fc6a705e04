package tests

import (
	"fmt"
	"maps"
	"slices"
	"strings"
	"testing"

	"loop.example/g00283/impl"
)

// copiesOf reads what tellCopies tells: "2.0 +3 5 @17 / 4 @17; 17.3 -0" is the copy of object 2, of class 0 and version 3, that is Valid, has 5 and
// object 17, and had 4 and object 17 when it was first written; and that of object 17, of class 3 and version 0, that is not Valid.
func copiesOf(told string) []impl.Copy {
	var list []impl.Copy
	if strings.TrimSpace(told) == "" {
		return nil
	}
	for s := range strings.SplitSeq(told, ";") {
		head, values, _ := strings.Cut(strings.TrimSpace(s), " ")
		version, values, _ := strings.Cut(values, " ")
		fields, twin, _ := strings.Cut(values, "/")
		c := impl.Copy{Fields: valsOf(fields), Twin: valsOf(twin)}
		if _, err := fmt.Sscanf(head, "%d.%d", &c.Id, &c.Class); err != nil {
			panic(s)
		}
		if _, err := fmt.Sscan(version[1:], &c.Version); err != nil {
			panic(s)
		}
		c.Valid = version[0] == '+'
		list = append(list, c)
	}
	return list
}

func tellCopy(c impl.Copy) string {
	told := fmt.Sprintf("%d.%d %s%d %s", c.Id, c.Class, map[bool]string{true: "+", false: "-"}[c.Valid], c.Version, tellVals(c.Fields))
	if len(c.Twin) > 0 {
		told = strings.TrimSpace(told) + " / " + tellVals(c.Twin)
	}
	return strings.TrimSpace(told)
}

func tellCopies(list []impl.Copy) string {
	var told []string
	for _, c := range list {
		told = append(told, tellCopy(c))
	}
	return strings.Join(told, "; ")
}

func sameCopy(a, b impl.Copy) bool {
	return a.Id == b.Id && a.Class == b.Class && a.Version == b.Version && a.Valid == b.Valid && slices.Equal(a.Fields, b.Fields) && slices.Equal(a.Twin, b.Twin)
}

func sameCopies(a, b []impl.Copy) bool { return slices.EqualFunc(a, b, sameCopy) }

func cloneCopies(list []impl.Copy) []impl.Copy {
	list = slices.Clone(list)
	for i, c := range list {
		list[i].Fields, list[i].Twin = slices.Clone(c.Fields), slices.Clone(c.Twin)
	}
	return list
}

// someCopies are right by memoryText; some of them are written, some not Valid, some both.
const someCopies = "2.0 +3 5 @17 / 4 @17; 17.1 -0 -7 @17 @40 2147483647; 40.2 +16777215 0 @0 @40 1 @41 / 0 @0 @0 1 @0; 41.3 +7;" +
	" 90.4 -9 1 2 @90 -2147483648 @2 @0 @17 8 / 1 2 @90 -2147483648 @2 @0 @17 8; 91.5 +1 @91 @1000000"

func fieldsRight(k impl.Kind, list []impl.Val) bool {
	if len(list) != len(k.Fields) {
		return false
	}
	for at, v := range list {
		if !valRight(v) || v.Ref == (k.Fields[at].Type == "I") {
			return false
		}
	}
	return true
}

// copiesRight tells by itself what CopiesOk has to answer.
func copiesRight(p impl.Prog, list []impl.Copy) bool {
	ids := map[int]bool{}
	for i, c := range list {
		if c.Id < 1 || c.Id > 1000000 || ids[c.Id] || i > 0 && c.Id < list[i-1].Id {
			return false
		}
		ids[c.Id] = true
		if c.Class < 0 || c.Class >= len(p.Kinds) || c.Version < 0 || c.Version > 16777215 {
			return false
		}
		if k := p.Kinds[c.Class]; !fieldsRight(k, c.Fields) || len(c.Twin) != 0 && !fieldsRight(k, c.Twin) {
			return false
		}
	}
	return true
}

func wantCopiesOk(t *testing.T, p impl.Prog, right bool, list ...string) {
	t.Helper()
	for _, told := range list {
		copies := copiesOf(told)
		if copiesRight(p, copies) != right || tellCopies(copiesOf(tellCopies(copies))) != tellCopies(copies) {
			t.Errorf("%s is not as this test wants it", told)
		}
		if impl.CopiesOk(p, copies) != right {
			t.Errorf("CopiesOk of %s is %v", told, !right)
		}
	}
}

// rightCopies and wrongCopies are so by memoryText, whatever their Twins are.
func rightCopies() []string {
	return []string{
		"", someCopies,
		// Numbers, and the least and the most of each.
		"1.3 +0", "1000000.3 +0", "1.3 +16777215", "1.3 -16777215", "1.3 +0; 2.3 +0", "999999.3 +1; 1000000.3 -1", "1.3 +5; 1000000.3 +0", "3.3 +0; 4.3 +0; 5.3 +0; 500.3 +0",
		// Fields of its own, and of its super.
		"7.0 +1 -2147483648 @0", "7.0 +1 2147483647 @1000000", "7.0 -1 0 @7", "7.1 +1 5 @1 @2 6", "7.2 +1 5 @1 @2 6 @3", "7.4 +1 1 2 @3 4 @5 @6 @7 8", "7.5 +1 @0 @0",
	}
}

func TestCopiesOkOfRightOnes(t *testing.T) {
	p := memoryProg(t)
	wantCopiesOk(t, p, true, rightCopies()...)
	wantCopiesOk(t, p, true,
		"7.0 +1 5 @1 / 5 @1", "7.0 -1 5 @1 / 2147483647 @1000000", "7.0 +1 5 @1 / -2147483648 @0", "7.1 +1 5 @1 @2 6 / 6 @2 @1 5", "7.5 +1 @0 @0 / @1 @2",
		"7.4 +1 1 2 @3 4 @5 @6 @7 8 / 8 7 @6 5 @4 @3 @2 1", "7.0 +1 5 @1; 8.0 +1 5 @1 / 6 @2; 9.0 +1 5 @1",
	)
}

func wrongCopies() []string {
	return []string{
		// Numbers that are none, or do not ascend.
		"0.3 +1", "-1.3 +1", "1000001.3 +1", "0.3 +1; 1.3 +1", "-3.3 +1; 1.3 +1", "1.3 +1; 1000001.3 +1", "2.3 +1; 1.3 +1", "1.3 +1; 1.3 +1", "1.3 +1; 1.3 -2", "1.3 +1; 3.3 +1; 2.3 +1",
		"1.3 +1; 2.3 +1; 1.3 +1", "1.3 +1; 2.3 +1; 2.3 +1", "3.3 +1; 1.3 +1; 2.3 +1", "5.0 +1 1 @0; 5.0 +1 1 @0", "5.0 +1 1 @0; 5.3 +1",
		"9223372036854775807.3 +1; 9223372036854775807.3 +1", "9223372036854775807.3 +1; 1.3 +1", "-9223372036854775808.3 +1",
		// Classes that there are not.
		"1.6 +1", "1.-1 +1", "1.7 +1", "1.256 +1", "1.6 +1; 2.3 +1", "1.3 +1; 2.6 +1", "1.4294967299 +1", "1.6 +1 0 @0", "1.-1 +1 0 @0",
		// Versions that are none.
		"1.3 +-1", "1.3 --1", "1.3 +16777216", "1.3 -16777216", "1.3 +-9223372036854775808", "1.3 +9223372036854775807", "1.3 +1; 2.3 +16777216", "1.3 +-1; 2.3 +1", "7.0 +16777216 5 @1 / 5 @1",
		// One field more and less.
		"1.3 +1 0", "1.3 +1 @0", "1.0 +1", "1.0 +1 0", "1.0 +1 0 @0 0", "1.0 +1 0 @0 @0", "1.1 +1 0 @0 @0", "1.1 +1 0 @0", "1.1 +1 0 @0 @0 0 0", "1.4 +1 0 0 @0 0 @0 @0 @0", "1.4 +1 0 0 @0 0 @0 @0 @0 0 0", "1.5 +1 @0", "1.5 +1 @0 @0 @0", "1.3 +1; 2.3 +1 0", "1.3 +1 0; 2.3 +1",
		// Fields that are no values.
		"1.0 +1 2147483648 @0", "1.0 +1 -2147483649 @0", "1.0 -1 9223372036854775807 @0", "1.0 +1 0 @-1", "1.0 +1 0 @1000001", "1.0 -1 0 @-9223372036854775808", "1.1 +1 0 @0 @0 2147483648", "1.4 +1 2147483648 0 @0 0 @0 @0 @0 0", "1.5 +1 @0 @1000001", "1.3 +1; 2.0 +1 0 @-1",
		// A Ref where the type is `I`, and none where it is a class.
		"1.0 +1 @0 @0", "1.0 +1 @5 @0", "1.0 +1 0 0", "1.0 -1 0 5", "1.0 +1 @0 0", "1.1 +1 0 @0 0 0", "1.1 +1 0 @0 @0 @0", "1.2 +1 0 @0 @0 0 0", "1.4 +1 0 0 @0 0 @0 @0 @0 @0", "1.4 +1 0 0 @0 0 @0 0 @0 0", "1.5 +1 0 @0", "1.5 +1 @0 0", "1.3 +1; 2.5 +1 @0 0",
	}
}

func TestCopiesOkOfWrongOnes(t *testing.T) {
	p := memoryProg(t)
	wantCopiesOk(t, p, false, wrongCopies()...)
	wantCopiesOk(t, p, false,
		// The same of Twins.
		"1.3 +1 / 0", "1.3 +1 / @0", "1.0 +1 5 @1 / 5", "1.0 +1 5 @1 / @1", "1.0 +1 5 @1 / 5 @1 0", "1.0 +1 5 @1 / 5 @1 @1", "1.1 +1 0 @0 @0 0 / 0 @0 @0", "1.1 +1 0 @0 @0 0 / 0 @0 @0 0 0", "1.5 +1 @0 @0 / @0", "1.5 +1 @0 @0 / @0 @0 @0",
		"1.0 +1 5 @1 / 2147483648 @1", "1.0 +1 5 @1 / -2147483649 @1", "1.0 +1 5 @1 / 5 @-1", "1.0 +1 5 @1 / 5 @1000001", "1.1 -1 0 @0 @0 0 / 0 @0 @0 2147483648",
		"1.0 +1 5 @1 / @5 @1", "1.0 +1 5 @1 / 5 1", "1.0 +1 5 @1 / 0 0", "1.0 +1 5 @1 / @0 @0", "1.1 +1 0 @0 @0 0 / 0 @0 @0 @0", "1.5 +1 @0 @0 / @0 0",
		"1.0 +1 5 @1 / 5 @1; 2.0 +1 5 @1 / 5", "1.0 +1 5 @1 / 5; 2.0 +1 5 @1 / 5 @1",
		// A right Twin does not make wrong Fields right.
		"1.0 +1 / 5 @1", "1.0 +1 5 / 5 @1", "1.0 +1 5 5 / 5 @1", "1.0 +1 2147483648 @1 / 5 @1",
	)
}

// copyInts points to each number of copies, and copyFlags to each flag that counts.
func copyInts(list []impl.Copy) []*int {
	var ints []*int
	for i := range list {
		c := &list[i]
		ints = append(ints, &c.Id, &c.Class, &c.Version)
		for at := range c.Fields {
			ints = append(ints, &c.Fields[at].N)
		}
		for at := range c.Twin {
			ints = append(ints, &c.Twin[at].N)
		}
	}
	return ints
}

func copyFlags(list []impl.Copy) []*bool {
	var flags []*bool
	for i := range list {
		flags = append(flags, &list[i].Valid)
		for at := range list[i].Fields {
			flags = append(flags, &list[i].Fields[at].Ref)
		}
		for at := range list[i].Twin {
			flags = append(flags, &list[i].Twin[at].Ref)
		}
	}
	return flags
}

// turnedCopies are one turn away from copies: a number, a flag, or a list is turned.
func turnedCopies(list []impl.Copy) [][]impl.Copy {
	var out [][]impl.Copy
	add := func(turn func(q []impl.Copy)) {
		q := cloneCopies(list)
		turn(q)
		out = append(out, cloneCopies(q))
	}
	for i := range copyInts(list) {
		for _, n := range append(edgeNumbers(), 0, 1, 2, 3, 4, 5, 6, 7, 17, 18, 40, 90, 91, 92, impl.MaxId, impl.MaxId+1, impl.MaxNum, impl.MaxNum+1, 1<<31-1, 1<<31, -1<<31, -1<<31-1) {
			add(func(q []impl.Copy) { *copyInts(q)[i] = n })
		}
	}
	for i := range copyFlags(list) {
		add(func(q []impl.Copy) { *copyFlags(q)[i] = !*copyFlags(q)[i] })
	}
	for i, c := range list {
		for _, turned := range turnedLists(c.Fields) {
			add(func(q []impl.Copy) { q[i].Fields = turned })
		}
		for _, turned := range append(turnedLists(c.Twin), c.Fields, list[0].Fields) {
			add(func(q []impl.Copy) { q[i].Twin = turned })
		}
	}
	for _, turned := range turnedLists(list) {
		out = append(out, cloneCopies(turned))
	}
	return out
}

func TestCopiesOkOfTurnedCopies(t *testing.T) {
	p := memoryProg(t)
	var counts [2]int
	for _, list := range turnedCopies(copiesOf(someCopies)) {
		right := copiesRight(p, list)
		if impl.CopiesOk(p, list) != right {
			t.Fatalf("CopiesOk of %s is %v", tellCopies(list), !right)
		}
		counts[flagVal(right).N]++
	}
	if counts[0] < 800 || counts[1] < 400 {
		t.Errorf("%v", counts)
	}
}

// CopiesOk asks of a program only for its classes and their fields.
func TestCopiesOkOfOtherPrograms(t *testing.T) {
	var counts [2]int
	for _, q := range otherProgs(memoryProg(t)) {
		for _, told := range []string{"", someCopies, "7.0 +1 5 @0", "7.0 +1", "1.3 -2; 2.3 +1", "4.1 +1 0 @4 @0 5 / 1 @0 @0 6", "4.5 +1 @0 @0", "4.5 +1 @0 @0 / @4 @4"} {
			list := copiesOf(told)
			right := copiesRight(q, list)
			if impl.CopiesOk(q, list) != right {
				t.Fatalf("%+v: CopiesOk of %s is %v", q, told, !right)
			}
			counts[flagVal(right).N]++
		}
	}
	if counts[0] < 900 || counts[1] < 900 {
		t.Errorf("%v", counts)
	}
}

// copyThere is the first copy of id, found by hand.
func copyThere(list []impl.Copy, id int) (impl.Copy, bool) {
	for _, c := range list {
		if c.Id == id {
			return c, true
		}
	}
	return impl.Copy{}, false
}

// valThere is what ReadCopy has to answer.
func valThere(list []impl.Copy, id, at int) (impl.Val, bool) {
	if c, _ := copyThere(list, id); c.Valid && at >= 0 && at < len(c.Fields) {
		return c.Fields[at], true
	}
	return impl.Val{}, false
}

func numbersForCopies() []int {
	return append(edgeNumbers(), 0, 1, 2, 3, 16, 17, 18, 40, 41, 90, 91, 92, impl.MaxId-1, impl.MaxId, impl.MaxId+1, 1<<32+2)
}

// wantCopiesRead asks for every copy, and for every field of it, that there is and that there is not.
func wantCopiesRead(t *testing.T, list []impl.Copy) {
	t.Helper()
	for _, id := range numbersForCopies() {
		want, there := copyThere(list, id)
		if got, ok := impl.CopyOf(list, id); ok != there || !sameCopy(got, want) {
			t.Errorf("%s: CopyOf %d is %s, %v", tellCopies(list), id, tellCopy(got), ok)
		}
		for _, at := range append(edgeNumbers(), 0, 1, 2, 3, 4, 5, 6, 7, 8, 9, 1<<32+1) {
			v, there := valThere(list, id, at)
			if got, ok := impl.ReadCopy(list, id, at); ok != there || got != v {
				t.Errorf("%s: ReadCopy of field %d of %d is %+v, %v", tellCopies(list), at, id, got, ok)
			}
		}
	}
}

func TestReadCopy(t *testing.T) {
	for _, told := range []string{
		"", someCopies, "1.0 +1 5 @6", "1000000.0 +1 5 @6", "1.0 -1 5 @6", "1.3 +0", "1.0 +0 5 @6; 1000000.0 +16777215 7 @8", "1.0 +1 5 @6 / 4 @3", "1.0 -1 5 @6 / 4 @3",
		// What is no copies is read, too: the first one of an Id.
		"18.0 +1 5 @6; 17.0 +1 7 @8", "17.0 +1 5 @6; 17.0 +1 7 @8", "17.0 -1 5 @6; 17.0 +1 7 @8", "17.0 +1 5; 17.0 +1 7 @8", "-1.9 +-4 5 @6 7; 0.0 +1 5", "17.0 +1 1 2 3 4 5 6 7 8 9 10", "17.0 +1 / 5 @6",
	} {
		wantCopiesRead(t, copiesOf(told))
	}
	for _, list := range turnedCopies(copiesOf("2.0 +3 5 @17 / 4 @17; 17.5 -1 @2 @3")) {
		wantCopiesRead(t, list)
	}
}

// wantWritten: what is told, and true.
func wantWritten(t *testing.T, was string, id, at int, v impl.Val, told string) {
	t.Helper()
	got, ok := impl.WriteCopy(copiesOf(was), id, at, v)
	if !ok || !sameCopies(got, copiesOf(told)) {
		t.Errorf("WriteCopy of field %d of %d in %s is %s, %v in place of %s", at, id, was, tellCopies(got), ok, told)
	}
}

func TestWriteCopy(t *testing.T) {
	// The first and the last field, of each class; its Twin is as the Fields were.
	wantWritten(t, "7.0 +3 5 @17", 7, 0, wordVal(6), "7.0 +3 6 @17 / 5 @17")
	wantWritten(t, "7.0 +3 5 @17", 7, 1, refVal(18), "7.0 +3 5 @18 / 5 @17")
	wantWritten(t, "7.1 +3 5 @17 @0 8", 7, 3, wordVal(9), "7.1 +3 5 @17 @0 9 / 5 @17 @0 8")
	wantWritten(t, "7.4 +3 1 2 @3 4 @5 @6 @7 8", 7, 0, wordVal(-1), "7.4 +3 -1 2 @3 4 @5 @6 @7 8 / 1 2 @3 4 @5 @6 @7 8")
	wantWritten(t, "7.4 +3 1 2 @3 4 @5 @6 @7 8", 7, 7, wordVal(-8), "7.4 +3 1 2 @3 4 @5 @6 @7 -8 / 1 2 @3 4 @5 @6 @7 8")
	// What is written to what it was is written all the same.
	wantWritten(t, "7.0 +3 5 @17", 7, 0, wordVal(5), "7.0 +3 5 @17 / 5 @17")
	// A Twin that is there stays.
	wantWritten(t, "7.0 +3 6 @17 / 5 @17", 7, 1, refVal(18), "7.0 +3 6 @18 / 5 @17")
	wantWritten(t, "7.0 +3 6 @17 / 5 @17", 7, 0, wordVal(7), "7.0 +3 7 @17 / 5 @17")
	wantWritten(t, "7.0 +3 6 @17 / 5 @17", 7, 0, wordVal(5), "7.0 +3 5 @17 / 5 @17")
	wantWritten(t, "7.0 +3 5 @17 / 5 @17", 7, 1, refVal(0), "7.0 +3 5 @0 / 5 @17")
	// Others stay: the first, one between, the last of them is written.
	wantWritten(t, "5.0 +1 1 @1; 7.0 +2 2 @2 / 0 @0; 9.0 -3 3 @3", 5, 0, wordVal(8), "5.0 +1 8 @1 / 1 @1; 7.0 +2 2 @2 / 0 @0; 9.0 -3 3 @3")
	wantWritten(t, "5.0 +1 1 @1; 7.0 +2 2 @2; 9.0 -3 3 @3 / 0 @0", 7, 0, wordVal(8), "5.0 +1 1 @1; 7.0 +2 8 @2 / 2 @2; 9.0 -3 3 @3 / 0 @0")
	wantWritten(t, "5.0 +1 1 @1; 7.0 -2 2 @2; 9.0 +3 3 @3", 9, 1, refVal(9), "5.0 +1 1 @1; 7.0 -2 2 @2; 9.0 +3 3 @9 / 3 @3")
	// Id 1 and MaxId, Version 0 and MaxNum.
	wantWritten(t, "1.0 +0 1 @1; 1000000.0 +16777215 2 @2", 1, 0, wordVal(3), "1.0 +0 3 @1 / 1 @1; 1000000.0 +16777215 2 @2")
	wantWritten(t, "1.0 +0 1 @1; 1000000.0 +16777215 2 @2", 1000000, 1, refVal(1000000), "1.0 +0 1 @1; 1000000.0 +16777215 2 @1000000 / 2 @2")
}

// The chapter asks nothing of v, nor of the copies beyond its words.
func TestWriteCopyOfWhateverItIs(t *testing.T) {
	wantWritten(t, "7.0 +3 5 @17", 7, 0, refVal(6), "7.0 +3 @6 @17 / 5 @17")
	wantWritten(t, "7.0 +3 5 @17", 7, 1, wordVal(6), "7.0 +3 5 6 / 5 @17")
	wantWritten(t, "7.0 +3 5 @17", 7, 1, refVal(-6), "7.0 +3 5 @-6 / 5 @17")
	wantWritten(t, "7.0 +3 5 @17", 7, 0, wordVal(1<<40), "7.0 +3 1099511627776 @17 / 5 @17")
	wantWritten(t, "9.0 +3 5 @17; 7.0 +3 5 @17; 7.0 +3 5 @17", 7, 0, wordVal(6), "9.0 +3 5 @17; 7.0 +3 6 @17 / 5 @17; 7.0 +3 5 @17")
	wantWritten(t, "-7.9 +-3 1 2 3 4 5 6 7 8 9", -7, 8, wordVal(6), "-7.9 +-3 1 2 3 4 5 6 7 8 6 / 1 2 3 4 5 6 7 8 9")
	wantWritten(t, "7.0 +3 5 @17 / 5", 7, 1, refVal(6), "7.0 +3 5 @6 / 5")
}

// wantNoCopyWritten: as it was and false.
func wantNoCopyWritten(t *testing.T, was string, id, at int) {
	t.Helper()
	if got, ok := impl.WriteCopy(copiesOf(was), id, at, wordVal(77)); ok || !sameCopies(got, copiesOf(was)) {
		t.Errorf("WriteCopy of field %d of %d in %s is %s, %v", at, id, was, tellCopies(got), ok)
	}
}

func TestWriteCopyOfNone(t *testing.T) {
	for _, was := range []string{"", someCopies, "7.0 +1 5 @6; 7.0 +1 5 @6", "7.0 -1 5 @6; 7.0 +1 5 @6", "9.0 +1 5; 8.0 +1 5 @6", "7.0 +1 / 5 @6"} {
		list := copiesOf(was)
		for _, id := range append(numbersForCopies(), 7) {
			for _, at := range append(edgeNumbers(), 0, 1, 2, 3, 4, 5, 7, 8, 9, 1<<32) {
				if _, there := valThere(list, id, at); !there {
					wantNoCopyWritten(t, was, id, at)
				}
			}
		}
	}
	// A copy that is not Valid, written or not.
	wantNoCopyWritten(t, "7.0 -1 5 @6", 7, 0)
	wantNoCopyWritten(t, "7.0 -1 5 @6 / 4 @6", 7, 0)
	// One that has no field, and one beyond the last one.
	wantNoCopyWritten(t, "7.3 +1", 7, 0)
	wantNoCopyWritten(t, "7.0 +1 5 @6", 7, 2)
	wantNoCopyWritten(t, "7.0 +1 5 @6", 7, -1)
	wantNoCopyWritten(t, "7.4 +3 1 2 @3 4 @5 @6 @7 8", 7, 8)
	wantNoCopyWritten(t, "7.0 +1 5 @6", 8, 0)
	wantNoCopyWritten(t, "7.0 +1 5 @6", 6, 0)
}

func wantPut(t *testing.T, was string, id, class, version int, fields, told string) {
	t.Helper()
	if got := impl.PutCopy(copiesOf(was), id, class, version, valsOf(fields)); !sameCopies(got, copiesOf(told)) {
		t.Errorf("PutCopy of %d.%d, version %d, %s in %s is %s in place of %s", id, class, version, fields, was, tellCopies(got), told)
	}
}

func TestPutCopy(t *testing.T) {
	// The first one; Id 1 and MaxId, Version 0 and MaxNum; a class without fields.
	wantPut(t, "", 7, 0, 3, "5 @6", "7.0 +3 5 @6")
	wantPut(t, "", 1, 0, 0, "5 @6", "1.0 +0 5 @6")
	wantPut(t, "", impl.MaxId, 4, impl.MaxNum, "1 2 @3 4 @5 @6 @7 8", "1000000.4 +16777215 1 2 @3 4 @5 @6 @7 8")
	wantPut(t, "", 7, 3, 1, "", "7.3 +1")
	// Ahead of, between and behind others, which stay.
	wantPut(t, "5.0 -1 1 @1; 9.0 +2 2 @2 / 0 @0", 1, 3, 4, "", "1.3 +4; 5.0 -1 1 @1; 9.0 +2 2 @2 / 0 @0")
	wantPut(t, "5.0 -1 1 @1; 9.0 +2 2 @2 / 0 @0", 4, 0, 4, "5 @6", "4.0 +4 5 @6; 5.0 -1 1 @1; 9.0 +2 2 @2 / 0 @0")
	wantPut(t, "5.0 -1 1 @1; 9.0 +2 2 @2 / 0 @0", 6, 0, 4, "5 @6", "5.0 -1 1 @1; 6.0 +4 5 @6; 9.0 +2 2 @2 / 0 @0")
	wantPut(t, "5.0 -1 1 @1; 9.0 +2 2 @2 / 0 @0", 8, 0, 4, "5 @6", "5.0 -1 1 @1; 8.0 +4 5 @6; 9.0 +2 2 @2 / 0 @0")
	wantPut(t, "5.0 -1 1 @1; 9.0 +2 2 @2 / 0 @0", 10, 0, 4, "5 @6", "5.0 -1 1 @1; 9.0 +2 2 @2 / 0 @0; 10.0 +4 5 @6")
	wantPut(t, "5.0 -1 1 @1; 9.0 +2 2 @2 / 0 @0", impl.MaxId, 0, 4, "5 @6", "5.0 -1 1 @1; 9.0 +2 2 @2 / 0 @0; 1000000.0 +4 5 @6")
	// In place of one that was not written: nothing of it stays.
	wantPut(t, "5.0 +1 1 @1; 7.0 +2 2 @2; 9.0 +3 3 @3", 5, 0, 8, "4 @4", "5.0 +8 4 @4; 7.0 +2 2 @2; 9.0 +3 3 @3")
	wantPut(t, "5.0 +1 1 @1; 7.0 +2 2 @2; 9.0 +3 3 @3", 7, 0, 8, "4 @4", "5.0 +1 1 @1; 7.0 +8 4 @4; 9.0 +3 3 @3")
	wantPut(t, "5.0 +1 1 @1; 7.0 +2 2 @2; 9.0 +3 3 @3", 9, 0, 8, "4 @4", "5.0 +1 1 @1; 7.0 +2 2 @2; 9.0 +8 4 @4")
	wantPut(t, "7.0 -2 2 @2", 7, 0, 2, "4 @4", "7.0 +2 4 @4")
	wantPut(t, "7.0 -2 2 @2", 7, 0, 1, "4 @4", "7.0 +1 4 @4")
	wantPut(t, "7.0 +2 2 @2", 7, 1, 3, "4 @4 @5 6", "7.1 +3 4 @4 @5 6")
	wantPut(t, "7.3 -2", 7, 3, 3, "", "7.3 +3")
	wantPut(t, "7.3 +2", 7, 0, 3, "4 @4", "7.0 +3 4 @4")
	wantPut(t, "7.0 +2 2 @2", 7, 3, 3, "", "7.3 +3")
}

// P20: what was written to a copy stays, whatever comes.
func TestPutCopyOfWhatWasWritten(t *testing.T) {
	// One field written, the first and the last one.
	wantPut(t, "7.0 +2 6 @2 / 5 @2", 7, 0, 3, "8 @9", "7.0 +3 6 @9 / 8 @9")
	wantPut(t, "7.0 +2 5 @3 / 5 @2", 7, 0, 3, "8 @9", "7.0 +3 8 @3 / 8 @9")
	wantPut(t, "7.4 +2 -1 2 @3 4 @5 @6 @7 8 / 1 2 @3 4 @5 @6 @7 8", 7, 4, 3, "9 9 @9 9 @9 @9 @9 9", "7.4 +3 -1 9 @9 9 @9 @9 @9 9 / 9 9 @9 9 @9 @9 @9 9")
	wantPut(t, "7.4 +2 1 2 @3 4 @5 @6 @7 -8 / 1 2 @3 4 @5 @6 @7 8", 7, 4, 3, "9 9 @9 9 @9 @9 @9 9", "7.4 +3 9 9 @9 9 @9 @9 @9 -8 / 9 9 @9 9 @9 @9 @9 9")
	// Several fields, and all of them.
	wantPut(t, "7.0 +2 6 @3 / 5 @2", 7, 0, 3, "8 @9", "7.0 +3 6 @3 / 8 @9")
	wantPut(t, "7.1 +2 6 @2 @0 7 / 5 @2 @8 7", 7, 1, 3, "1 @1 @1 1", "7.1 +3 6 @1 @0 1 / 1 @1 @1 1")
	// A field that was written to what it was is not changed.
	wantPut(t, "7.0 +2 5 @2 / 5 @2", 7, 0, 3, "8 @9", "7.0 +3 8 @9 / 8 @9")
	wantPut(t, "7.0 +2 5 @3 / 5 @2", 7, 0, 3, "5 @2", "7.0 +3 5 @3 / 5 @2")
	// What comes is what was written already.
	wantPut(t, "7.0 +2 6 @2 / 5 @2", 7, 0, 3, "6 @2", "7.0 +3 6 @2 / 6 @2")
	// A copy that is not Valid is written all the same.
	wantPut(t, "7.0 -2 6 @2 / 5 @2", 7, 0, 3, "8 @9", "7.0 +3 6 @9 / 8 @9")
	wantPut(t, "7.0 -2 6 @2 / 5 @2", 7, 0, 1, "8 @9", "7.0 +1 6 @9 / 8 @9")
	wantPut(t, "7.0 +16777215 6 @2 / 5 @2", 7, 0, 0, "8 @9", "7.0 +0 6 @9 / 8 @9")
	// A word and an object's number are not the same, whatever the number.
	wantPut(t, "7.0 +2 5 @2 / 5 2", 7, 0, 3, "8 @9", "7.0 +3 8 @2 / 8 @9")
	wantPut(t, "7.0 +2 @5 @2 / 5 @2", 7, 0, 3, "8 @9", "7.0 +3 @5 @9 / 8 @9")
	// Others stay, written or not.
	wantPut(t, "5.0 +1 1 @1 / 0 @1; 7.0 +2 6 @2 / 5 @2; 9.0 -3 3 @3 / 3 @0", 7, 0, 3, "8 @9", "5.0 +1 1 @1 / 0 @1; 7.0 +3 6 @9 / 8 @9; 9.0 -3 3 @3 / 3 @0")
}

// What is of another class, or has a Twin of another length, was not written for what comes.
func TestPutCopyOfAnotherOne(t *testing.T) {
	wantPut(t, "7.0 +2 6 @2 / 5 @2", 7, 1, 3, "8 @9 @9 1", "7.1 +3 8 @9 @9 1")
	wantPut(t, "7.0 +2 6 @2 / 5 @2", 7, 1, 3, "8 @9", "7.1 +3 8 @9")
	wantPut(t, "7.0 -2 6 @2 / 5 @2", 7, -1, 3, "8 @9", "7.-1 +3 8 @9")
	wantPut(t, "7.5 +2 @6 @2 / @5 @2", 7, 0, 3, "8 @9", "7.0 +3 8 @9")
	wantPut(t, "7.0 +2 6 @2 / 5 @2", 7, 3, 3, "", "7.3 +3")
	wantPut(t, "7.0 +2 6 @2 / 5 @2", 7, 0, 3, "8", "7.0 +3 8")
	wantPut(t, "7.0 +2 6 @2 / 5 @2", 7, 0, 3, "", "7.0 +3")
	wantPut(t, "7.0 +2 6 @2 / 5 @2", 7, 0, 3, "8 @9 1", "7.0 +3 8 @9 1")
	wantPut(t, "7.0 +2 6 @2 / 5", 7, 0, 3, "8 @9", "7.0 +3 8 @9")
	wantPut(t, "7.0 +2 6 @2 / 5 @2 1", 7, 0, 3, "8 @9", "7.0 +3 8 @9")
	// Fields of another length than their Twin: as far as there are both.
	wantPut(t, "7.0 +2 6 / 5 @2", 7, 0, 3, "8 @9", "7.0 +3 6 @9 / 8 @9")
	wantPut(t, "7.0 +2 / 5 @2", 7, 0, 3, "8 @9", "7.0 +3 8 @9 / 8 @9")
	wantPut(t, "7.0 +2 5 @3 4 / 5 @2", 7, 0, 3, "8 @9", "7.0 +3 8 @3 / 8 @9")
	// A class that there is not has written copies, too.
	wantPut(t, "7.99 +2 6 @2 / 5 @2", 7, 99, 3, "8 @9", "7.99 +3 6 @9 / 8 @9")
}

// The chapter names no answer for what would be no copy: it is put as it is told.
func TestPutCopyOfWhateverItIs(t *testing.T) {
	wantPut(t, "5.3 +1; 9.3 +1", 0, 3, 1, "", "0.3 +1; 5.3 +1; 9.3 +1")
	wantPut(t, "5.3 +1; 9.3 +1", -7, 3, 1, "", "-7.3 +1; 5.3 +1; 9.3 +1")
	wantPut(t, "5.3 +1; 9.3 +1", impl.MaxId+1, 3, 1, "", "5.3 +1; 9.3 +1; 1000001.3 +1")
	wantPut(t, "5.3 +1", 5, 256, -1, "5", "5.256 +-1 5")
	wantPut(t, "5.3 +1", 6, -1, impl.MaxNum+1, "1 2 3 4 5 6 7 8 9", "5.3 +1; 6.-1 +16777216 1 2 3 4 5 6 7 8 9")
	wantPut(t, "5.3 +1", 6, 0, 1, "@-5 1099511627776", "5.3 +1; 6.0 +1 @-5 1099511627776")
	// Of two of one Id, the first; ahead of the first one with a greater number.
	wantPut(t, "5.0 +1 1 @1 / 0 @1; 5.0 +1 2 @2 / 0 @0", 5, 0, 3, "8 @9", "5.0 +3 1 @9 / 8 @9; 5.0 +1 2 @2 / 0 @0")
	wantPut(t, "9.3 +1; 5.3 +1", 7, 3, 2, "", "7.3 +2; 9.3 +1; 5.3 +1")
	wantPut(t, "9.3 +1; 5.3 +1", 5, 3, 2, "", "9.3 +1; 5.3 +2")
}

// allFields are all pairs of three values that a copy may have.
func allFields() [][]impl.Val {
	var list [][]impl.Val
	for _, first := range []string{"0", "1", "@1"} {
		for _, second := range []string{"@0", "@1", "1"} {
			list = append(list, valsOf(first+" "+second))
		}
	}
	return list
}

// P20: of all Fields and Twins, and of all that comes, each field that was changed is as it was written, each other one as it comes.
func TestWhatWasWrittenStays(t *testing.T) {
	var changed, others int
	for _, was := range allFields() {
		for _, now := range allFields() {
			for _, come := range allFields() {
				for _, valid := range []bool{true, false} {
					list := []impl.Copy{{Id: 5}, {Id: 7, Class: 2, Version: 3, Valid: valid, Fields: slices.Clone(now), Twin: slices.Clone(was)}, {Id: 9}}
					got, there := impl.CopyOf(impl.PutCopy(list, 7, 2, 4, come), 7)
					if !there || got.Class != 2 || got.Version != 4 || !got.Valid || !slices.Equal(got.Twin, come) || len(got.Fields) != 2 {
						t.Fatalf("%v, %v, %v: %s", was, now, come, tellCopy(got))
					}
					for at, v := range got.Fields {
						if now[at] != was[at] {
							changed++
							if v != now[at] {
								t.Fatalf("%v, %v, %v: field %d is lost: %s", was, now, come, at, tellCopy(got))
							}
						} else if others++; v != come[at] {
							t.Fatalf("%v, %v, %v: field %d does not come: %s", was, now, come, at, tellCopy(got))
						}
					}
				}
			}
		}
	}
	if changed != 2*2*9*54 || others != 2*2*9*27 {
		t.Errorf("%d, %d", changed, others)
	}
}

func wantStale(t *testing.T, was string, notes []impl.Note, told string) {
	t.Helper()
	if got := impl.Stale(copiesOf(was), notes); !sameCopies(got, copiesOf(told)) {
		t.Errorf("Stale of %s by %v is %s in place of %s", was, notes, tellCopies(got), told)
	}
}

// versionsOf are notes, each an Id and a Version.
func versionsOf(pairs ...int) []impl.Note {
	var list []impl.Note
	for i := 0; i < len(pairs); i += 2 {
		list = append(list, impl.Note{Id: pairs[i], Version: pairs[i+1]})
	}
	return list
}

func TestStale(t *testing.T) {
	const was = "5.0 +3 1 @1 / 0 @1; 7.3 +3; 9.0 +3 3 @3"
	// Notes of all, of some, of none.
	wantStale(t, was, versionsOf(5, 4, 7, 4, 9, 4), "5.0 -3 1 @1 / 0 @1; 7.3 -3; 9.0 -3 3 @3")
	wantStale(t, was, versionsOf(5, 4), "5.0 -3 1 @1 / 0 @1; 7.3 +3; 9.0 +3 3 @3")
	wantStale(t, was, versionsOf(7, 4), "5.0 +3 1 @1 / 0 @1; 7.3 -3; 9.0 +3 3 @3")
	wantStale(t, was, versionsOf(9, 4), "5.0 +3 1 @1 / 0 @1; 7.3 +3; 9.0 -3 3 @3")
	wantStale(t, was, nil, was)
	wantStale(t, was, versionsOf(4, 9, 6, 9, 8, 9, 10, 9), was)
	wantStale(t, "", versionsOf(5, 4), "")
	wantStale(t, "", nil, "")
	// One below the note's, at it, one above it.
	wantStale(t, was, versionsOf(5, 2, 7, 3, 9, 4), "5.0 +3 1 @1 / 0 @1; 7.3 +3; 9.0 -3 3 @3")
	wantStale(t, "1.3 +0; 2.3 +16777215; 1000000.3 +16777214", versionsOf(1, 1, 2, impl.MaxNum, impl.MaxId, impl.MaxNum), "1.3 -0; 2.3 +16777215; 1000000.3 -16777214")
	wantStale(t, "1.3 +0; 2.3 +0", versionsOf(1, 0, 2, -1), "1.3 +0; 2.3 +0")
	// The first note of an Id, whatever others tell, and wherever it stands.
	wantStale(t, was, versionsOf(5, 3, 5, 4), was)
	wantStale(t, was, versionsOf(5, 4, 5, 3), "5.0 -3 1 @1 / 0 @1; 7.3 +3; 9.0 +3 3 @3")
	wantStale(t, was, versionsOf(9, 4, 5, 0, 7, 1, 5, 9, 9, 1), "5.0 +3 1 @1 / 0 @1; 7.3 +3; 9.0 -3 3 @3")
	// What is not Valid stays so.
	wantStale(t, "5.3 -3; 7.3 -3; 9.3 -3", versionsOf(5, 2, 7, 3, 9, 4), "5.3 -3; 7.3 -3; 9.3 -3")
	// What is no copies, and no notes.
	wantStale(t, "9.3 +3; 5.3 +3; 5.3 +5; -1.9 +-4 7", versionsOf(5, 4, -1, -3), "9.3 +3; 5.3 -3; 5.3 +5; -1.9 --4 7")
	wantStale(t, "5.3 +-2; 7.3 +-2", versionsOf(5, -2), "5.3 +-2; 7.3 +-2")
}

// staleThere tells by itself what Stale has to answer.
func staleThere(list []impl.Copy, notes []impl.Note) []impl.Copy {
	out := cloneCopies(list)
	for i, c := range out {
		for _, x := range notes {
			if x.Id == c.Id {
				out[i].Valid = c.Valid && c.Version >= x.Version
				break
			}
		}
	}
	return out
}

func TestStaleOfAllShortNotes(t *testing.T) {
	all := [][]impl.Note{nil}
	for range 3 {
		for _, ahead := range slices.Clone(all) {
			for _, id := range []int{5, 7, 8} {
				for version := 2; version <= 4; version++ {
					all = append(all, append(slices.Clone(ahead), impl.Note{Id: id, Version: version}))
				}
			}
		}
	}
	list := copiesOf("5.0 +3 1 @1 / 0 @1; 7.3 +3; 9.0 -3 3 @3")
	stale := 0
	for _, notes := range all {
		got, want := impl.Stale(list, notes), staleThere(list, notes)
		if !sameCopies(got, want) {
			t.Fatalf("Stale by %v is %s in place of %s", notes, tellCopies(got), tellCopies(want))
		}
		stale += 1 - flagVal(sameCopies(got, list)).N
	}
	if len(all) != 1000 || stale < 390 {
		t.Errorf("%d, %d", len(all), stale)
	}
}

func wantDirty(t *testing.T, was string, ids ...int) {
	t.Helper()
	if got := impl.DirtyOf(copiesOf(was)); !slices.Equal(got, ids) {
		t.Errorf("DirtyOf %s is %v in place of %v", was, got, ids)
	}
}

func TestDirtyOf(t *testing.T) {
	wantDirty(t, "")
	wantDirty(t, "5.0 +1 1 @1; 7.3 -2; 9.0 +3 3 @3")
	wantDirty(t, "5.0 +1 1 @1 / 1 @1; 7.3 +2; 9.0 +3 3 @3", 5)
	wantDirty(t, "5.0 +1 1 @1; 7.3 +2; 9.0 -3 3 @3 / 2 @3", 9)
	wantDirty(t, "5.0 +1 1 @1 / 0 @1; 7.3 +2; 9.0 -3 3 @3 / 2 @3; 1000000.0 +1 1 @1 / 0 @1", 5, 9, 1000000)
	wantDirty(t, "1.0 +1 1 @1 / 0 @1; 2.0 +1 1 @1 / 0 @1", 1, 2)
	wantDirty(t, someCopies, 2, 40, 90)
	// What is no copies: as they stand.
	wantDirty(t, "9.0 +1 1 / 0; 5.0 +1 1 / 0; 9.0 +1 1 / 0; -3.0 +1 / 0", 9, 5, 9, -3)
}

func wantClean(t *testing.T, was string, id int, told string) {
	t.Helper()
	if got := impl.CleanCopy(copiesOf(was), id); !sameCopies(got, copiesOf(told)) {
		t.Errorf("CleanCopy of %d in %s is %s in place of %s", id, was, tellCopies(got), told)
	}
}

func TestCleanCopy(t *testing.T) {
	const was = "5.0 +1 1 @1 / 0 @1; 7.0 -2 2 @2 / 2 @0; 9.0 +3 3 @3; 1000000.0 +1 1 @1 / 1 @1"
	wantClean(t, was, 5, "5.0 +1 1 @1; 7.0 -2 2 @2 / 2 @0; 9.0 +3 3 @3; 1000000.0 +1 1 @1 / 1 @1")
	wantClean(t, was, 7, "5.0 +1 1 @1 / 0 @1; 7.0 -2 2 @2; 9.0 +3 3 @3; 1000000.0 +1 1 @1 / 1 @1")
	wantClean(t, was, impl.MaxId, "5.0 +1 1 @1 / 0 @1; 7.0 -2 2 @2 / 2 @0; 9.0 +3 3 @3; 1000000.0 +1 1 @1")
	wantClean(t, "1.0 +1 1 @1 / 0 @1; 2.3 +1", 1, "1.0 +1 1 @1; 2.3 +1")
	// One without Twin, and Ids that there are not.
	wantClean(t, was, 9, was)
	for _, id := range append(edgeNumbers(), 0, 1, 4, 6, 8, 10, impl.MaxId+1, 1<<32+5) {
		wantClean(t, was, id, was)
		wantClean(t, "", id, "")
	}
	// What is no copies.
	wantClean(t, "9.0 +1 1 / 0; 5.0 +1 1 / 0; 5.0 +1 1 / 0", 5, "9.0 +1 1 / 0; 5.0 +1 1; 5.0 +1 1 / 0")
	wantClean(t, "-9.0 +1 1 / 0 5", -9, "-9.0 +1 1")
}

// What is written, comes, is told of and is cleaned, one behind the other.
func TestCopiesOneBehindTheOther(t *testing.T) {
	p := memoryProg(t)
	var list []impl.Copy
	want := func(told string, right bool) {
		t.Helper()
		if !sameCopies(list, copiesOf(told)) || impl.CopiesOk(p, list) != right {
			t.Fatalf("%s in place of %s", tellCopies(list), told)
		}
	}
	write := func(id, at int, v impl.Val, does bool) {
		t.Helper()
		var ok bool
		if list, ok = impl.WriteCopy(list, id, at, v); ok != does {
			t.Fatalf("WriteCopy of %d: %v", id, ok)
		}
	}
	list = impl.PutCopy(list, 18, 1, 3, valsOf("1 @2 @3 4"))
	list = impl.PutCopy(list, 5, 0, 1, valsOf("9 @18"))
	want("5.0 +1 9 @18; 18.1 +3 1 @2 @3 4", true)
	// Two fields, one behind the other, and one of them twice.
	write(18, 1, refVal(5), true)
	want("5.0 +1 9 @18; 18.1 +3 1 @5 @3 4 / 1 @2 @3 4", true)
	write(18, 3, wordVal(7), true)
	want("5.0 +1 9 @18; 18.1 +3 1 @5 @3 7 / 1 @2 @3 4", true)
	write(18, 1, refVal(6), true)
	want("5.0 +1 9 @18; 18.1 +3 1 @6 @3 7 / 1 @2 @3 4", true)
	// It is told of a later version, and can't be written until that has come.
	list = impl.Stale(list, versionsOf(5, 1, 18, 4))
	write(18, 0, wordVal(8), false)
	want("5.0 +1 9 @18; 18.1 -3 1 @6 @3 7 / 1 @2 @3 4", true)
	list = impl.PutCopy(list, 18, 1, 4, valsOf("10 @2 @30 40"))
	want("5.0 +1 9 @18; 18.1 +4 10 @6 @30 7 / 10 @2 @30 40", true)
	if v, ok := impl.ReadCopy(list, 18, 3); !ok || v != wordVal(7) {
		t.Error("what was written is lost")
	}
	// And it comes again.
	list = impl.PutCopy(list, 18, 1, 5, valsOf("11 @6 @31 41"))
	want("5.0 +1 9 @18; 18.1 +5 11 @6 @31 7 / 11 @6 @31 41", true)
	// What had been written came by itself, so that it is no more changed.
	list = impl.PutCopy(list, 18, 1, 6, valsOf("12 @7 @32 42"))
	want("5.0 +1 9 @18; 18.1 +6 12 @7 @32 7 / 12 @7 @32 42", true)
	if got := impl.DirtyOf(list); !slices.Equal(got, []int{18}) {
		t.Error(got)
	}
	list = impl.CleanCopy(list, 18)
	want("5.0 +1 9 @18; 18.1 +6 12 @7 @32 7", true)
	list = impl.PutCopy(list, 18, 1, 7, valsOf("13 @8 @33 43"))
	want("5.0 +1 9 @18; 18.1 +7 13 @8 @33 43", true)
	write(5, 0, refVal(3), true)
	want("5.0 +1 @3 @18 / 9 @18; 18.1 +7 13 @8 @33 43", false)
}

// A copyEntry keeps what came last, and what was written beside it.
type copyEntry struct {
	class, version int
	valid, written bool
	come           []impl.Val
	own            map[int]impl.Val
}

// fields are what came, under what was written.
func (x copyEntry) fields() []impl.Val {
	list := slices.Clone(x.come)
	for at, v := range x.own {
		list[at] = v
	}
	return list
}

// A copyBook keeps copies without any order.
type copyBook map[int]copyEntry

func (x copyBook) copies() []impl.Copy {
	var list []impl.Copy
	for _, id := range slices.Sorted(maps.Keys(x)) {
		e := x[id]
		c := impl.Copy{Id: id, Class: e.class, Version: e.version, Valid: e.valid, Fields: e.fields()}
		if e.written {
			c.Twin = slices.Clone(e.come)
		}
		list = append(list, c)
	}
	return list
}

func (x copyBook) writes(id, at int, v impl.Val) bool {
	e, there := x[id]
	if !there || !e.valid || at < 0 || at >= len(e.come) {
		return false
	}
	e.own[at], e.written = v, true
	x[id] = e
	return true
}

func (x copyBook) puts(id, class, version int, fields []impl.Val) {
	was := x[id]
	e := copyEntry{class, version, true, false, slices.Clone(fields), map[int]impl.Val{}}
	if was.written && was.class == class {
		e.written = true
		for at, v := range was.own {
			if v != was.come[at] {
				e.own[at] = v
			}
		}
	}
	x[id] = e
}

func (x copyBook) tells(notes []impl.Note) {
	for _, note := range notes {
		if e, there := x[note.Id]; there && e.version < note.Version {
			e.valid = false
			x[note.Id] = e
		}
	}
}

func (x copyBook) cleans(id int) {
	if e, there := x[id]; there {
		e.come, e.own, e.written = e.fields(), map[int]impl.Val{}, false
		x[id] = e
	}
}

func (x copyBook) dirty() []int {
	var ids []int
	for _, id := range slices.Sorted(maps.Keys(x)) {
		if x[id].written {
			ids = append(ids, id)
		}
	}
	return ids
}

// A copyRun goes on with copies, beside a book of them.
type copyRun struct {
	dice
	p    impl.Prog
	book copyBook
	list []impl.Copy
	ids  []int
	done [5]int
}

func (x *copyRun) someId() int { return x.ids[x.below(len(x.ids))] }

// someFields are of a class, of few values, so that some are as they were.
func (x *copyRun) someFields(class int) []impl.Val {
	list := freshThere(x.p, class)
	for at := range list {
		list[at].N = x.below(3)
	}
	return list
}

// step does one thing to both.
func (x *copyRun) step(t *testing.T) {
	t.Helper()
	id, deed, was := x.someId(), []int{0, 0, 1, 1, 1, 1, 2, 3, 4}[x.below(9)], x.list
	switch deed {
	case 0:
		class, version := x.below(6), x.below(9)
		if e, there := x.book[id]; there && x.below(4) > 0 {
			class = e.class
		}
		fields := x.someFields(class)
		x.book.puts(id, class, version, fields)
		x.list = impl.PutCopy(was, id, class, version, fields)
		x.done[deed]++
	case 1:
		at := x.below(6) - 1
		v := wordVal(x.below(3))
		if e := x.book[id]; at >= 0 && at < len(e.come) {
			v.Ref = e.come[at].Ref
		}
		want := x.book.writes(id, at, v)
		var ok bool
		if x.list, ok = impl.WriteCopy(was, id, at, v); ok != want {
			t.Fatalf("%s: WriteCopy of field %d of %d is %v", tellCopies(was), at, id, ok)
		}
		x.done[deed] += flagVal(ok).N
	case 2:
		notes := []impl.Note{{Id: id, Version: x.below(9)}}
		if other := x.someId(); other != id {
			notes = append(notes, impl.Note{Id: other, Version: x.below(9)})
		}
		x.book.tells(notes)
		x.list = impl.Stale(was, notes)
		x.done[deed]++
	case 3:
		x.book.cleans(id)
		x.list = impl.CleanCopy(was, id)
		x.done[deed]++
	case 4:
		if got, want := impl.DirtyOf(was), x.book.dirty(); !slices.Equal(got, want) {
			t.Fatalf("DirtyOf %s is %v in place of %v", tellCopies(was), got, want)
		}
		x.done[deed]++
	}
	if want := x.book.copies(); !sameCopies(x.list, want) || !impl.CopiesOk(x.p, x.list) {
		t.Fatalf("deed %d of %d makes of %s %s in place of %s", deed, id, tellCopies(was), tellCopies(x.list), tellCopies(want))
	}
}

// P20, too: whatever comes, is written, told of and cleaned, in whatever order, is as one book without any order has it; and it stays right.
func TestCopiesAreAsABookOfThem(t *testing.T) {
	var done [5]int
	for seed := range 60 {
		x := copyRun{dice: dice(2000 + seed), p: memoryProg(t), book: copyBook{}, ids: []int{1, 2, 5, 17, 18, 90, impl.MaxId}}
		for range 300 {
			x.step(t)
		}
		wantCopiesRead(t, x.list)
		for i, n := range x.done {
			done[i] += n
		}
	}
	for i, n := range done {
		if n < 1000 {
			t.Errorf("deed %d is done %d times", i, n)
		}
	}
}

// P33: what is far too much is answered, too; no chapter says how many copies there may be.
func TestCopiesThatAreFarTooMany(t *testing.T) {
	const many = 1 << 17
	p := memoryProg(t)
	list, notes := make([]impl.Copy, many), make([]impl.Note, many)
	for i := range list {
		list[i] = impl.Copy{Id: i + 1, Class: 5, Version: i % 2, Valid: true, Fields: valsOf("@0 @1")}
		notes[i] = impl.Note{Id: many - i, Version: 1}
	}
	if !impl.CopiesOk(p, list) {
		t.Error("CopiesOk")
	}
	stale := impl.Stale(list, append(notes, versionsOf(1, 0, 2, 9)...))
	if stale[0].Valid || !stale[1].Valid || stale[many-2].Valid || !stale[many-1].Valid {
		t.Error("Stale")
	}
	got, ok := impl.WriteCopy(list, many, 1, refVal(5))
	if !ok || !slices.Equal(impl.DirtyOf(got), []int{many}) || len(impl.DirtyOf(impl.CleanCopy(got, many))) != 0 {
		t.Error("WriteCopy")
	}
	if put := impl.PutCopy(got, many, 5, 8, valsOf("@7 @7")); tellCopy(put[many-1]) != "131072.5 +8 @7 @5 / @7 @7" {
		t.Error("PutCopy")
	}
	if put := impl.PutCopy(list, impl.MaxId, 3, 8, nil); len(put) != many+1 || !impl.CopiesOk(p, put) {
		t.Error("PutCopy behind many")
	}
	if c, ok := impl.CopyOf(list, many); !ok || c.Id != many {
		t.Error("CopyOf")
	}
	if impl.CopiesOk(p, make([]impl.Copy, many)) || len(impl.DirtyOf(make([]impl.Copy, many))) != 0 {
		t.Error("many that are nothing")
	}
	wide := []impl.Copy{{Id: 1, Class: 5, Valid: true, Fields: make([]impl.Val, many)}}
	wide, ok = impl.WriteCopy(wide, 1, many-1, refVal(3))
	wide = impl.PutCopy(wide, 1, 5, 2, make([]impl.Val, many))
	if v, there := impl.ReadCopy(wide, 1, many-1); !ok || !there || v != refVal(3) || len(wide[0].Twin) != many || impl.CopiesOk(p, wide) {
		t.Error("many fields")
	}
}

// copiesForMemory: right and wrong ones; in some, two lists are one, or stand one behind the other.
func copiesForMemory() [][]impl.Copy {
	var lists [][]impl.Copy
	for _, told := range []string{
		"", someCopies, "7.0 +1 5 @0", "7.0 +1 5 @0 / 4 @0; 9.0 -2 6 @7", "7.3 +1; 8.3 -1", "9.0 +1 5 @0 / 5 @0; 7.0 +1 5 @0 / 5 @0", "7.0 +1 5 @0; 7.0 +1 5 @0 / 4 @0", "7.9 +-1 5", "7.0 +1 5 / 4 @0", "7.0 +1 5 @0 6 / 4 @0",
		"-1.0 +1; 0.3 +1 / 5", "1.0 -1 5 @0 / 4 @0; 7.0 -1 5 @0 / 4 @0; 1000000.0 +1 5 @0 / 4 @0",
	} {
		lists = append(lists, copiesOf(told))
	}
	shared := copiesOf("5.0 +1 1 @0; 7.0 +1 1 @0; 9.0 +1 1 @0")
	for i := range shared {
		shared[i].Fields, shared[i].Twin = shared[0].Fields, shared[0].Fields
	}
	parts := copiesOf("5.0 +1 1 @0 / 1 @0; 7.0 +1 1 @0 / 1 @0")
	whole := valsOf("1 @0 2 @0 3 @0 4 @0")
	for i := range parts {
		parts[i].Fields, parts[i].Twin = whole[4*i:4*i+2], whole[4*i+2:4*i+4]
	}
	return append(lists, shared, parts)
}

// roomyCopies have spare room behind each of their lists, and wholeCopies go to the end of it.
func roomyCopies(list []impl.Copy) []impl.Copy {
	list = cloneCopies(list)
	for i, c := range list {
		list[i].Fields, _ = roomy(c.Fields, refVal(77))
		list[i].Twin, _ = roomy(c.Twin, refVal(78))
	}
	list, _ = roomy(list, impl.Copy{Id: 100, Class: 3, Valid: true})
	return list
}

func wholeCopies(list []impl.Copy) []impl.Copy {
	list = slices.Clone(list[:cap(list)])
	for i, c := range list {
		list[i].Fields, list[i].Twin = c.Fields[:cap(c.Fields)], c.Twin[:cap(c.Twin)]
	}
	return list
}

func spoilCopies(list []impl.Copy) {
	for _, c := range list[:cap(list)] {
		spoilAll(c.Fields, refVal(55))
		spoilAll(c.Twin, refVal(56))
	}
	spoilAll(list, impl.Copy{Id: 55})
}

// copiesApart: no two lists of fields share memory, up to the end of their spare room.
func copiesApart(list []impl.Copy) bool {
	var lists [][]impl.Val
	for _, c := range list[:cap(list)] {
		lists = append(lists, c.Fields[:cap(c.Fields)], c.Twin[:cap(c.Twin)])
	}
	return marked(lists, func(v *impl.Val, n int) { v.N = n }, func(v impl.Val) int { return v.N })
}

// A copyAsk makes copies of copies, of fields and of notes.
type copyAsk struct {
	what string
	ask  func(list []impl.Copy, fields []impl.Val, notes []impl.Note) []impl.Copy
}

func copyAsks() []copyAsk {
	var asks []copyAsk
	add := func(what string, ask func(list []impl.Copy, fields []impl.Val, notes []impl.Note) []impl.Copy) {
		asks = append(asks, copyAsk{what, ask})
	}
	for _, id := range []int{-1, 0, 1, 5, 7, 8, 9, 41, impl.MaxId} {
		for _, at := range []int{-1, 0, 1, 4} {
			add(fmt.Sprint("WriteCopy of ", id, " at ", at), func(list []impl.Copy, _ []impl.Val, _ []impl.Note) []impl.Copy {
				got, _ := impl.WriteCopy(list, id, at, wordVal(6))
				return got
			})
		}
		for class := range 2 {
			add(fmt.Sprint("PutCopy of ", id, " of class ", class), func(list []impl.Copy, fields []impl.Val, _ []impl.Note) []impl.Copy {
				return impl.PutCopy(list, id, class, 4, fields)
			})
		}
		add(fmt.Sprint("WriteCopy behind PutCopy of ", id), func(list []impl.Copy, fields []impl.Val, _ []impl.Note) []impl.Copy {
			got, _ := impl.WriteCopy(impl.PutCopy(list, id, 0, 4, fields), id, 0, wordVal(9))
			return got
		})
		add(fmt.Sprint("CleanCopy of ", id), func(list []impl.Copy, _ []impl.Val, _ []impl.Note) []impl.Copy { return impl.CleanCopy(list, id) })
		// What CopyOf answers is laid into a list of its own.
		add(fmt.Sprint("CopyOf ", id), func(list []impl.Copy, _ []impl.Val, _ []impl.Note) []impl.Copy {
			c, _ := impl.CopyOf(list, id)
			return []impl.Copy{c}
		})
	}
	add("Stale", func(list []impl.Copy, _ []impl.Val, notes []impl.Note) []impl.Copy { return impl.Stale(list, notes) })
	// Those that only tell have to leave all as it is, too.
	add("all others", func(list []impl.Copy, _ []impl.Val, _ []impl.Note) []impl.Copy {
		impl.CopiesOk(impl.Prog{Kinds: make([]impl.Kind, 6)}, list)
		impl.ReadCopy(list, 7, 0)
		ids := impl.DirtyOf(list)
		spoilAll(ids, 55)
		return nil
	})
	return asks
}

// P33: nothing that is handed in is written, nor the spare room behind it; an answer shares no memory with it, nor with another answer, nor do two
// lists of one answer with each other.
func TestCopiesAreNewMemory(t *testing.T) {
	for i, list := range copiesForMemory() {
		for _, told := range []string{"8 @9", "", "1 2 3"} {
			for _, x := range copyAsks() {
				given := roomyCopies(list)
				if i%2 == 1 {
					// As it stands, with what its copies share.
					given = list
				}
				fields, wholeFields := roomy(valsOf(told), refVal(77))
				notes, wholeNotes := roomy(versionsOf(5, 2, 7, 2, 7, 1), impl.Note{Id: 9, Version: 99})
				were, whole := cloneCopies(given), cloneCopies(wholeCopies(given))
				fieldsWere, notesWere := slices.Clone(wholeFields), slices.Clone(wholeNotes)
				stays := func() bool {
					return sameCopies(given, were) && sameCopies(wholeCopies(given), whole) && slices.Equal(wholeFields, fieldsWere) && slices.Equal(wholeNotes, notesWere)
				}
				first, second := x.ask(given, fields, notes), x.ask(given, fields, notes)
				want := cloneCopies(second)
				if !sameCopies(first, want) || !stays() {
					t.Fatalf("%s writes into %s", x.what, tellCopies(list))
				}
				if !copiesApart(first) {
					t.Fatalf("two lists of what %s makes of %s share memory", x.what, tellCopies(list))
				}
				spoilCopies(first)
				if !sameCopies(second, want) || !stays() {
					t.Fatalf("what %s makes of %s shares memory", x.what, tellCopies(list))
				}
				spoilAll(fields, refVal(66))
				spoilAll(notes, impl.Note{Id: 66})
				given = cloneCopies(given)
				third := x.ask(given, slices.Clone(fieldsWere[:len(fields)]), slices.Clone(notesWere[:len(notes)]))
				spoilCopies(given)
				if !sameCopies(second, want) || !sameCopies(third, want) {
					t.Fatalf("what %s makes of %s shares memory with it", x.what, tellCopies(list))
				}
			}
		}
	}
}

// P33: a program is not written, either.
func TestCopiesOkWritesNothing(t *testing.T) {
	for _, p := range progsForMemory(t) {
		for _, list := range copiesForMemory() {
			prog, given := roomyProg(p), roomyCopies(list)
			wholeP, were := cloneProg(wholeProg(prog)), cloneCopies(wholeCopies(given))
			impl.CopiesOk(prog, given)
			if !sameProg(prog, p) || !sameProg(wholeProg(prog), wholeP) || !sameCopies(wholeCopies(given), were) {
				t.Fatalf("CopiesOk of %s writes", tellCopies(list))
			}
		}
	}
}

// tellAllOfCopies tells what the chapter's functions answer of copies.
func tellAllOfCopies(p impl.Prog, list []impl.Copy) string {
	var told strings.Builder
	fmt.Fprintln(&told, impl.CopiesOk(p, list), impl.DirtyOf(list))
	for _, x := range copyAsks() {
		fmt.Fprintln(&told, x.what, tellCopies(x.ask(list, valsOf("8 @9"), versionsOf(5, 2, 7, 2, 7, 1))))
	}
	for id := -1; id <= 10; id++ {
		for at := -1; at <= 4; at++ {
			v, ok := impl.ReadCopy(list, id, at)
			_, written := impl.WriteCopy(list, id, at, wordVal(5))
			fmt.Fprint(&told, v, ok, written)
		}
		_, there := impl.CopyOf(list, id)
		fmt.Fprintln(&told, there)
	}
	return told.String()
}

// P33: no call leaves anything behind that a later one shows.
func TestCopiesAreToldAgain(t *testing.T) {
	p := memoryProg(t)
	wantToldAgain(t, copiesForMemory(), func(list []impl.Copy) string { return tellAllOfCopies(p, list) })
}
