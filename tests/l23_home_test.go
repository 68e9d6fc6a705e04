package tests

import (
	"fmt"
	"maps"
	"math"
	"math/big"
	"slices"
	"strings"
	"testing"

	"loop.example/g00283/impl"
)

// A master is like a copy that is Valid and was not written: masters are read, told and reckoned like those. What they have stays where it is.
func mastersAs(list []impl.Copy) []impl.Master {
	var masters []impl.Master
	for _, c := range list {
		masters = append(masters, impl.Master{Id: c.Id, Class: c.Class, Version: c.Version, Fields: c.Fields})
	}
	return masters
}

func copiesAs(list []impl.Master) []impl.Copy {
	var copies []impl.Copy
	for _, m := range list {
		copies = append(copies, impl.Copy{Id: m.Id, Class: m.Class, Version: m.Version, Valid: true, Fields: m.Fields})
	}
	return copies
}

// mastersOf reads what tellMasters tells: "2.0 +3 5 @17" is the master of object 2, of class 0 and version 3, that has 5 and object 17.
func mastersOf(told string) []impl.Master { return mastersAs(copiesOf(told)) }

func masterOf(told string) impl.Master { return mastersOf(told)[0] }

func tellMasters(list []impl.Master) string { return tellCopies(copiesAs(list)) }

func sameMaster(a, b impl.Master) bool {
	return a.Id == b.Id && a.Class == b.Class && a.Version == b.Version && slices.Equal(a.Fields, b.Fields)
}

func sameMasters(a, b []impl.Master) bool { return slices.EqualFunc(a, b, sameMaster) }

func cloneMasters(list []impl.Master) []impl.Master { return mastersAs(cloneCopies(copiesAs(list))) }

// someMasters are right by memoryText; ahead of, between and behind them there is room for others.
const someMasters = "2.0 +3 5 @17; 17.1 +1 -7 @17 @40 2147483647; 40.2 +16777215 0 @0 @40 1 @41; 41.3 +7; 90.4 +9 1 2 @90 -2147483648 @2 @0 @17 8; 91.5 +1 @91 @1000000"

// mastersRight tells by itself what MastersOk has to answer.
func mastersRight(p impl.Prog, list []impl.Master) bool {
	unborn := func(m impl.Master) bool { return m.Version == 0 }
	return copiesRight(p, copiesAs(list)) && !slices.ContainsFunc(list, unborn)
}

// masterThere is the first master of id, found by hand; masterPlaceThere is where it stands, or -1.
func masterPlaceThere(list []impl.Master, id int) int {
	for i, m := range list {
		if m.Id == id {
			return i
		}
	}
	return -1
}

func masterThere(list []impl.Master, id int) (impl.Master, bool) {
	if i := masterPlaceThere(list, id); i >= 0 {
		return list[i], true
	}
	return impl.Master{}, false
}

func wantMastersOk(t *testing.T, p impl.Prog, right bool, list ...string) {
	t.Helper()
	for _, told := range list {
		masters := mastersOf(told)
		if mastersRight(p, masters) != right || !sameMasters(mastersOf(tellMasters(masters)), masters) {
			t.Errorf("%s is not as this test wants it", told)
		}
		if impl.MastersOk(p, masters) != right {
			t.Errorf("MastersOk of %s is %v", told, !right)
		}
	}
}

func TestMastersOkOfRightOnes(t *testing.T) {
	p := memoryProg(t)
	wantMastersOk(t, p, true, "", someMasters,
		// Id and Version, the least and the most of each.
		"1.3 +1", "1000000.3 +1", "1.3 +16777215", "1.3 +16777214", "1000000.3 +16777215", "1.3 +1; 2.3 +1", "1.3 +2; 1000000.3 +1",
	)
	for _, told := range rightCopies() {
		unborn := slices.ContainsFunc(mastersOf(told), func(m impl.Master) bool { return m.Version < 1 })
		wantMastersOk(t, p, !unborn, told)
	}
	if !impl.MastersOk(impl.Prog{}, nil) || !impl.MastersOk(p, []impl.Master{}) {
		t.Error("no masters")
	}
}

func TestMastersOkOfWrongOnes(t *testing.T) {
	p := memoryProg(t)
	wantMastersOk(t, p, false, wrongCopies()...)
	// Version 0, which a copy may have; ahead of, between and behind others.
	wantMastersOk(t, p, false, "1.3 +0", "1000000.3 +0", "7.0 +0 5 @1", "1.3 +0; 2.3 +1; 3.3 +1", "1.3 +1; 2.3 +0; 3.3 +1", "1.3 +1; 2.3 +1; 3.3 +0", strings.Replace(someMasters, "41.3 +7", "41.3 +0", 1))
	if impl.MastersOk(impl.Prog{}, mastersOf("1.0 +1")) || impl.MastersOk(p, make([]impl.Master, 1)) || impl.MastersOk(p, make([]impl.Master, 2)) {
		t.Error("masters of nothing")
	}
}

func TestMastersOkOfTurnedMasters(t *testing.T) {
	p := memoryProg(t)
	var counts [2]int
	for _, copies := range turnedCopies(copiesOf(someMasters)) {
		list := mastersAs(copies)
		right := mastersRight(p, list)
		if impl.MastersOk(p, list) != right {
			t.Fatalf("MastersOk of %s is %v", tellMasters(list), !right)
		}
		counts[flagVal(right).N]++
	}
	if counts[0] < 800 || counts[1] < 300 {
		t.Errorf("%v", counts)
	}
}

// MastersOk asks of a program only for its classes and their fields.
func TestMastersOkOfOtherPrograms(t *testing.T) {
	var counts [2]int
	for _, q := range otherProgs(memoryProg(t)) {
		for _, told := range []string{"", someMasters, "7.0 +1 5 @0", "7.0 +1", "1.3 +2; 2.3 +1", "1.3 +2; 2.3 +0", "4.1 +1 0 @4 @0 5", "4.5 +1 @0 @0"} {
			list := mastersOf(told)
			right := mastersRight(q, list)
			if impl.MastersOk(q, list) != right {
				t.Fatalf("%+v: MastersOk of %s is %v", q, told, !right)
			}
			counts[flagVal(right).N]++
		}
	}
	if counts[0] < 900 || counts[1] < 900 {
		t.Errorf("%v", counts)
	}
}

// wantMastersFound asks for every master, and for some that there are not.
func wantMastersFound(t *testing.T, list []impl.Master) {
	t.Helper()
	for _, id := range numbersForCopies() {
		want, there := masterThere(list, id)
		if got, ok := impl.MasterOf(list, id); ok != there || !sameMaster(got, want) {
			t.Errorf("%s: MasterOf %d is %+v, %v", tellMasters(list), id, got, ok)
		}
	}
}

func TestMasterOf(t *testing.T) {
	list := mastersOf(someMasters)
	for id, told := range map[int]string{2: "2.0 +3 5 @17", 41: "41.3 +7", 91: "91.5 +1 @91 @1000000"} {
		if got, ok := impl.MasterOf(list, id); !ok || tellMasters([]impl.Master{got}) != told {
			t.Errorf("MasterOf %d is %+v, %v", id, got, ok)
		}
	}
	for _, told := range []string{
		"", someMasters, "1.3 +1", "1000000.0 +16777215 5 @6", "1.3 +1; 1000000.3 +2",
		// What is no masters is looked for, too: the first one of an Id, whatever it is.
		"18.0 +1 5 @6; 17.0 +1 7 @8", "17.0 +1 5 @6; 17.0 +2 7 @8", "17.3 +0; 17.0 +2 7 @8", "90.0 +1 7; 17.3 +9; 2.0 +1; 17.0 +2; 90.3 +4", "-1.9 +-4 5 @6 7; 0.0 +1 5", "17.99 +1 1 2 3 4 5 6 7 8 9 10",
	} {
		wantMastersFound(t, mastersOf(told))
	}
	for _, copies := range turnedCopies(copiesOf("2.0 +3 5 @17; 17.5 +1 @2 @3")) {
		wantMastersFound(t, mastersAs(copies))
	}
}

func wantPutMaster(t *testing.T, was string, id, class int, fields, told string) {
	t.Helper()
	if got := impl.PutMaster(mastersOf(was), id, class, valsOf(fields)); !sameMasters(got, mastersOf(told)) {
		t.Errorf("PutMaster of %d.%d, %s, in %s is %s in place of %s", id, class, fields, was, tellMasters(got), told)
	}
}

func TestPutMaster(t *testing.T) {
	// The first one; Id 1 and MaxId; a class without fields, and with as many as there may be.
	wantPutMaster(t, "", 7, 0, "5 @6", "7.0 +1 5 @6")
	wantPutMaster(t, "", 1, 0, "5 @6", "1.0 +1 5 @6")
	wantPutMaster(t, "", impl.MaxId, 4, "1 2 @3 4 @5 @6 @7 8", "1000000.4 +1 1 2 @3 4 @5 @6 @7 8")
	wantPutMaster(t, "", 7, 3, "", "7.3 +1")
	// Ahead of, between and behind others, next to them and far away; they stay.
	const was = "5.0 +4 1 @1; 9.0 +16777215 2 @2"
	for id, told := range map[int]string{
		1: "1.1 +1 5 @6 @0 7; " + was, 4: "4.1 +1 5 @6 @0 7; " + was,
		6: "5.0 +4 1 @1; 6.1 +1 5 @6 @0 7; 9.0 +16777215 2 @2", 7: "5.0 +4 1 @1; 7.1 +1 5 @6 @0 7; 9.0 +16777215 2 @2", 8: "5.0 +4 1 @1; 8.1 +1 5 @6 @0 7; 9.0 +16777215 2 @2",
		10: was + "; 10.1 +1 5 @6 @0 7", impl.MaxId: was + "; 1000000.1 +1 5 @6 @0 7",
	} {
		wantPutMaster(t, was, id, 1, "5 @6 @0 7", told)
	}
	wantPutMaster(t, "1.3 +2; 1000000.3 +3", 2, 3, "", "1.3 +2; 2.3 +1; 1000000.3 +3")
	wantPutMaster(t, "1.3 +2; 1000000.3 +3", 999999, 3, "", "1.3 +2; 999999.3 +1; 1000000.3 +3")
	// As it was, where there is one: the first, one between, the last one, whatever comes.
	for _, id := range []int{5, 7, 9} {
		for _, fields := range []string{"8 @8", "1 @1", "", "1 2 3"} {
			for class := range 5 {
				wantPutMaster(t, "5.0 +1 1 @1; 7.0 +2 2 @2; 9.0 +16777215 3 @3", id, class, fields, "5.0 +1 1 @1; 7.0 +2 2 @2; 9.0 +16777215 3 @3")
			}
		}
	}
	wantPutMaster(t, "1.3 +1", 1, 3, "", "1.3 +1")
	wantPutMaster(t, "1000000.3 +1", impl.MaxId, 0, "5 @6", "1000000.3 +1")
}

// The chapter names no answer for what would be no master: it is put as it is told.
func TestPutMasterOfWhateverItIs(t *testing.T) {
	wantPutMaster(t, "5.3 +1; 9.3 +1", 0, 3, "", "0.3 +1; 5.3 +1; 9.3 +1")
	wantPutMaster(t, "5.3 +1; 9.3 +1", -7, 3, "", "-7.3 +1; 5.3 +1; 9.3 +1")
	wantPutMaster(t, "5.3 +1; 9.3 +1", impl.MaxId+1, 3, "", "5.3 +1; 9.3 +1; 1000001.3 +1")
	wantPutMaster(t, "5.3 +1", math.MaxInt, 256, "5", "5.3 +1; 9223372036854775807.256 +1 5")
	wantPutMaster(t, "5.3 +1", math.MinInt, -1, "5", "-9223372036854775808.-1 +1 5; 5.3 +1")
	wantPutMaster(t, "5.3 +1", 6, 0, "1 2 3 4 5 6 7 8 9", "5.3 +1; 6.0 +1 1 2 3 4 5 6 7 8 9")
	wantPutMaster(t, "5.3 +1", 6, 0, "@-5 1099511627776", "5.3 +1; 6.0 +1 @-5 1099511627776")
	// In what is no masters: as it was, where there is one, wherever it stands; else ahead of the first one with a greater number.
	wantPutMaster(t, "5.0 +1 1 @1; 5.0 +2 2 @2", 5, 0, "8 @9", "5.0 +1 1 @1; 5.0 +2 2 @2")
	wantPutMaster(t, "9.3 +0; 5.3 +-1", 5, 3, "", "9.3 +0; 5.3 +-1")
	wantPutMaster(t, "9.3 +0; 5.3 +-1", 7, 3, "", "7.3 +1; 9.3 +0; 5.3 +-1")
}

// wantPatched: what is told, and its version.
func wantPatched(t *testing.T, was string, id int, cells, told string, version int) {
	t.Helper()
	got, n := impl.PatchMaster(mastersOf(was), id, cellsOf(cells))
	if !sameMasters(got, mastersOf(told)) || n != version {
		t.Errorf("PatchMaster of %d with %q in %s is %s, %d in place of %s, %d", id, cells, was, tellMasters(got), n, told, version)
	}
}

func TestPatchMaster(t *testing.T) {
	// No cell; one at the first place, between, at the last one; several; one for each field.
	wantPatched(t, "7.1 +3 5 @17 @0 8", 7, "", "7.1 +4 5 @17 @0 8", 4)
	wantPatched(t, "7.1 +3 5 @17 @0 8", 7, "0=6", "7.1 +4 6 @17 @0 8", 4)
	wantPatched(t, "7.1 +3 5 @17 @0 8", 7, "1=@18", "7.1 +4 5 @18 @0 8", 4)
	wantPatched(t, "7.1 +3 5 @17 @0 8", 7, "3=-9", "7.1 +4 5 @17 @0 -9", 4)
	wantPatched(t, "7.1 +3 5 @17 @0 8", 7, "0=6 3=-9", "7.1 +4 6 @17 @0 -9", 4)
	wantPatched(t, "7.1 +3 5 @17 @0 8", 7, "0=6 1=@0 2=@1 3=9", "7.1 +4 6 @0 @1 9", 4)
	wantPatched(t, "7.4 +1 1 2 @3 4 @5 @6 @7 8", 7, "0=-1 1=-2 2=@1 3=-4 4=@1 5=@1 6=@1 7=-8", "7.4 +2 -1 -2 @1 -4 @1 @1 @1 -8", 2)
	// What is there already is a version more, too; so is what has no fields.
	wantPatched(t, "7.1 +3 5 @17 @0 8", 7, "0=5 2=@0", "7.1 +4 5 @17 @0 8", 4)
	wantPatched(t, "7.3 +1", 7, "", "7.3 +2", 2)
	wantPatched(t, "7.3 +1", 7, "0=5", "7.3 +2", 2)
	// Others stay: the first, one between, the last of them is patched.
	const was = "5.0 +1 1 @1; 7.0 +2 2 @2; 9.0 +3 3 @3"
	wantPatched(t, was, 5, "0=8", "5.0 +2 8 @1; 7.0 +2 2 @2; 9.0 +3 3 @3", 2)
	wantPatched(t, was, 7, "1=@8", "5.0 +1 1 @1; 7.0 +3 2 @8; 9.0 +3 3 @3", 3)
	wantPatched(t, was, 9, "0=8 1=@8", "5.0 +1 1 @1; 7.0 +2 2 @2; 9.0 +4 8 @8", 4)
	wantPatched(t, "1.3 +1; 1000000.0 +9 1 @1", 1, "0=5", "1.3 +2; 1000000.0 +9 1 @1", 2)
	wantPatched(t, "1.3 +1; 1000000.0 +9 1 @1", impl.MaxId, "0=5", "1.3 +1; 1000000.0 +10 5 @1", 10)
}

// Cells of places that there are not change nothing but the version; those that are not in order, or of one place, count one behind the other.
func TestPatchMasterOfAnyCells(t *testing.T) {
	for _, at := range placesBeside(2) {
		wantPatched(t, "7.0 +3 5 @17", 7, fmt.Sprintf("%d=@5", at), "7.0 +4 5 @17", 4)
		wantPatched(t, "7.0 +3 5 @17", 7, fmt.Sprintf("%d=@5 0=6", at), "7.0 +4 6 @17", 4)
		wantPatched(t, "7.0 +3 5 @17", 7, fmt.Sprintf("1=@6 %d=@5", at), "7.0 +4 5 @6", 4)
	}
	wantPatched(t, "7.0 +3 5 @17", 7, "1=@6 0=7", "7.0 +4 7 @6", 4)
	wantPatched(t, "7.1 +3 5 @17 @0 8", 7, "3=1 0=2 2=@3 1=@4", "7.1 +4 2 @4 @3 1", 4)
	wantPatched(t, "7.0 +3 5 @17", 7, "0=6 0=7", "7.0 +4 7 @17", 4)
	wantPatched(t, "7.0 +3 5 @17", 7, "0=7 1=@1 0=6", "7.0 +4 6 @1", 4)
	wantPatched(t, "7.0 +3 5 @17", 7, "0=1 0=2 0=3 0=4 0=5 0=6 0=7 0=8 0=9 1=@9", "7.0 +4 9 @9", 4)
	// What is no value, and of another type, is put as it is.
	wantPatched(t, "7.0 +3 5 @17", 7, "0=@5 1=17", "7.0 +4 @5 17", 4)
	wantPatched(t, "7.0 +3 5 @17", 7, "0=2147483648 1=@-1", "7.0 +4 2147483648 @-1", 4)
}

// Versions at their limit.
func TestPatchMasterUpToMaxNum(t *testing.T) {
	wantPatched(t, "7.0 +16777213 5 @17", 7, "0=6", "7.0 +16777214 6 @17", impl.MaxNum-1)
	wantPatched(t, "7.0 +16777214 5 @17", 7, "0=6", "7.0 +16777215 6 @17", impl.MaxNum)
	for _, cells := range []string{"", "0=6", "1=@6", "0=6 1=@6", "2=5", "-1=5", "0=5"} {
		wantPatched(t, "7.0 +16777215 5 @17", 7, cells, "7.0 +16777215 5 @17", 0)
		wantPatched(t, "5.0 +1 1 @1; 7.0 +16777215 5 @17; 9.0 +3 3 @3", 7, cells, "5.0 +1 1 @1; 7.0 +16777215 5 @17; 9.0 +3 3 @3", 0)
	}
	wantPatched(t, "7.3 +16777215", 7, "", "7.3 +16777215", 0)
	// Another one at its limit does not count.
	wantPatched(t, "7.0 +16777215 5 @17; 9.0 +16777214 3 @3", 9, "0=6", "7.0 +16777215 5 @17; 9.0 +16777215 6 @3", impl.MaxNum)
	// One behind the other, then no more.
	p, list := memoryProg(t), mastersOf("7.0 +16777210 0 @17")
	for n := range 12 {
		was := list
		var version int
		list, version = impl.PatchMaster(was, 7, []impl.Cell{word(0, n+1)})
		if want := impl.MaxNum - 4 + n; want <= impl.MaxNum {
			if version != want || list[0].Version != want || list[0].Fields[0] != wordVal(n+1) {
				t.Errorf("%d: %s, %d", n, tellMasters(list), version)
			}
		} else if version != 0 || !sameMasters(list, was) {
			t.Errorf("%d: %s, %d", n, tellMasters(list), version)
		}
		if !impl.MastersOk(p, list) {
			t.Errorf("%d: %s is not MastersOk", n, tellMasters(list))
		}
	}
}

func TestPatchMasterOfNone(t *testing.T) {
	for _, id := range numbersForCopies() {
		for _, was := range []string{"", "5.0 +1 1 @1", "4.3 +1; 5.0 +1 1 @1; 1000000.3 +1", someMasters} {
			if _, there := masterThere(mastersOf(was), id); !there {
				wantPatched(t, was, id, "0=6", was, 0)
				wantPatched(t, was, id, "", was, 0)
			}
		}
	}
	// What is no masters: of two of one Id the first, also where that is at its limit; a Version that is none goes on.
	wantPatched(t, "7.0 +3 5 @17; 7.0 +9 6 @18", 7, "0=8", "7.0 +4 8 @17; 7.0 +9 6 @18", 4)
	wantPatched(t, "7.0 +16777215 5 @17; 7.0 +9 6 @18", 7, "0=8", "7.0 +16777215 5 @17; 7.0 +9 6 @18", 0)
	wantPatched(t, "9.0 +3 5 @17; 7.0 +9 6 @18; 8.3 +2", 7, "0=8", "9.0 +3 5 @17; 7.0 +10 8 @18; 8.3 +2", 10)
	wantPatched(t, "-7.99 +0 5", -7, "0=8", "-7.99 +1 8", 1)
	wantPatched(t, "0.0 +-5 5", 0, "0=8", "0.0 +-4 8", -4)
	wantPatched(t, "7.0 +16777216 5", 7, "0=8", "7.0 +16777217 8", impl.MaxNum+2)
	wantPatched(t, "7.0 +1 1 2 3 4 5 6 7 8 9", 7, "8=0", "7.0 +2 1 2 3 4 5 6 7 8 0", 2)
}

func wantHome(t *testing.T, id, size int) {
	t.Helper()
	want := new(big.Int)
	if size >= 1 {
		want.Mod(big.NewInt(int64(id)), big.NewInt(int64(size)))
	}
	if got := impl.HomeOf(id, size); int64(got) != want.Int64() {
		t.Errorf("HomeOf of %d by %d is %d in place of %d", id, size, got, want)
	}
}

func TestHomeOf(t *testing.T) {
	for _, x := range [][3]int{
		// Nodes 0 to MaxNodes - 1, in turn.
		{1, 1, 0}, {2, 1, 0}, {1, 2, 1}, {2, 2, 0}, {3, 2, 1}, {1, 3, 1}, {2, 3, 2}, {3, 3, 0}, {17, 3, 2}, {1, 4, 1}, {3, 4, 3}, {4, 4, 0}, {17, 4, 1}, {impl.MaxId, 4, 0}, {impl.MaxId, 3, 1}, {999999, 4, 3},
		{0, 1, 0}, {0, 4, 0}, {1, impl.MaxId, 1}, {impl.MaxId, impl.MaxId, 0}, {5, 9, 5},
		// What is left of an id below 0 is no less than 0.
		{-1, 1, 0}, {-1, 2, 1}, {-2, 2, 0}, {-1, 3, 2}, {-2, 3, 1}, {-3, 3, 0}, {-4, 3, 2}, {-17, 4, 3}, {-4, 4, 0}, {-1, impl.MaxId, 999999},
		{math.MinInt, 2, 0}, {math.MinInt, 3, 1}, {math.MinInt, math.MaxInt, math.MaxInt - 1}, {math.MaxInt, math.MaxInt, 0}, {-1, math.MaxInt, math.MaxInt - 1}, {math.MinInt + 1, math.MaxInt, 0},
		// Sizes below 1.
		{17, 0, 0}, {17, -1, 0}, {17, -3, 0}, {-17, -3, 0}, {-17, 0, 0}, {0, 0, 0}, {math.MinInt, -1, 0}, {math.MinInt, math.MinInt, 0}, {math.MaxInt, math.MinInt, 0},
	} {
		if got := impl.HomeOf(x[0], x[1]); got != x[2] {
			t.Errorf("HomeOf of %d by %d is %d in place of %d", x[0], x[1], got, x[2])
		}
		wantHome(t, x[0], x[1])
	}
	for id := -300; id <= 300; id++ {
		for size := -5; size <= 40; size++ {
			wantHome(t, id, size)
		}
	}
	for _, id := range append(edgeNumbers(), numbersForCopies()...) {
		for _, size := range append(edgeNumbers(), numbersForCopies()...) {
			wantHome(t, id, size)
		}
	}
}

func wantObjectMsg(t *testing.T, master, cells string) {
	t.Helper()
	m := masterOf(master)
	want := impl.Msg{Kind: impl.MgObject, Id: m.Id, Class: m.Class, Version: m.Version, Cells: cellsOf(cells)}
	if got := impl.ObjectMsg(m); !sameMsg(got, want) {
		t.Errorf("ObjectMsg of %s is %+v", master, got)
	}
}

func TestObjectMsg(t *testing.T) {
	wantObjectMsg(t, "7.3 +1", "")
	wantObjectMsg(t, "1.3 +16777215", "")
	wantObjectMsg(t, "17.0 +3 5 @17", "0=5 1=@17")
	wantObjectMsg(t, "17.0 +3 0 @0", "0=0 1=@0")
	wantObjectMsg(t, "1000000.1 +16777214 -7 @17 @40 2147483647", "0=-7 1=@17 2=@40 3=2147483647")
	wantObjectMsg(t, "90.4 +16777215 1 2 @90 -2147483648 @2 @0 @17 8", "0=1 1=2 2=@90 3=-2147483648 4=@2 5=@0 6=@17 7=8")
	wantObjectMsg(t, "90.255 +1 @1000000", "0=@1000000")
	// What is no master is told as it is, too.
	wantObjectMsg(t, "0.0 +0", "")
	wantObjectMsg(t, "-5.-1 +-9 @-4 2147483648", "0=@-4 1=2147483648")
	wantObjectMsg(t, "1000001.256 +16777216 1 2 3 4 5 6 7 8 9 10", "0=1 1=2 2=3 3=4 4=5 5=6 6=7 7=8 8=9 9=10")
	if got := impl.ObjectMsg(impl.Master{}); !sameMsg(got, impl.Msg{Kind: impl.MgObject}) {
		t.Errorf("ObjectMsg of nothing is %+v", got)
	}
}

// fieldsTold tells by itself what FieldsOf has to answer: each place is looked for among all cells.
func fieldsTold(p impl.Prog, m impl.Msg) ([]impl.Val, bool) {
	if m.Kind != 2 || !impl.MsgOk(m) || m.Class >= len(p.Kinds) {
		return nil, false
	}
	cells := map[int]impl.Val{}
	for _, x := range m.Cells {
		cells[x.At] = x.Val
	}
	var fields []impl.Val
	for at := range p.Kinds[m.Class].Fields {
		v, there := cells[at]
		if !there {
			return nil, false
		}
		fields = append(fields, v)
		delete(cells, at)
	}
	if len(cells) > 0 || !fieldsRight(p.Kinds[m.Class], fields) {
		return nil, false
	}
	return fields, true
}

// wantFieldsOf tells whether there were any.
func wantFieldsOf(t *testing.T, p impl.Prog, m impl.Msg) bool {
	t.Helper()
	want, right := fieldsTold(p, m)
	got, ok := impl.FieldsOf(p, m)
	if ok != right || !slices.Equal(got, want) || !ok && len(got) != 0 {
		t.Fatalf("FieldsOf of %+v is %q, %v in place of %q, %v", m, tellVals(got), ok, tellVals(want), right)
	}
	return ok
}

func objectMsg(class int, cells string) impl.Msg {
	return impl.Msg{Kind: impl.MgObject, Id: 7, Class: class, Version: 3, Cells: cellsOf(cells)}
}

// wantFieldsTold: what is told as fields, and true; "-" is nothing and false.
func wantFieldsTold(t *testing.T, p impl.Prog, m impl.Msg, told string) {
	t.Helper()
	got, ok := impl.FieldsOf(p, m)
	if ok != (told != "-") || ok && tellVals(got) != told || !ok && len(got) != 0 {
		t.Errorf("FieldsOf of %+v is %q, %v in place of %q", m, tellVals(got), ok, told)
	}
	wantFieldsOf(t, p, m)
}

func TestFieldsOf(t *testing.T) {
	p := memoryProg(t)
	wantFieldsTold(t, p, objectMsg(3, ""), "")
	wantFieldsTold(t, p, objectMsg(0, "0=5 1=@17"), "5 @17")
	wantFieldsTold(t, p, objectMsg(0, "0=-2147483648 1=@0"), "-2147483648 @0")
	wantFieldsTold(t, p, objectMsg(1, "0=2147483647 1=@1 2=@1000000 3=0"), "2147483647 @1 @1000000 0")
	wantFieldsTold(t, p, objectMsg(2, "0=5 1=@1 2=@2 3=6 4=@3"), "5 @1 @2 6 @3")
	wantFieldsTold(t, p, objectMsg(4, "0=1 1=2 2=@3 3=4 4=@5 5=@6 6=@7 7=8"), "1 2 @3 4 @5 @6 @7 8")
	wantFieldsTold(t, p, objectMsg(5, "0=@7 1=@7"), "@7 @7")
	// Id and Version, the least and the most of each; a message may have Version 0.
	for _, id := range []int{1, 2, impl.MaxId} {
		for _, version := range []int{0, 1, impl.MaxNum - 1, impl.MaxNum} {
			m := objectMsg(0, "0=5 1=@17")
			m.Id, m.Version = id, version
			wantFieldsTold(t, p, m, "5 @17")
		}
	}
	m := objectMsg(3, "")
	m.Cells, m.Notes = []impl.Cell{}, []impl.Note{}
	wantFieldsTold(t, p, m, "")
}

// Cells that are not just one for each field.
func TestFieldsOfOtherPlaces(t *testing.T) {
	p := memoryProg(t)
	for class, wrong := range map[int][]string{
		3: {"0=0", "0=@0", "7=0", "0=0 1=@0"},
		0: {"", "0=5", "1=@17", "0=5 1=@17 2=0", "0=5 1=@17 2=@0", "0=5 1=@17 7=0", "0=5 2=@17", "1=5 2=@17", "6=5 7=@17", "0=5 7=@17", "1=@17 0=5", "0=5 0=5", "0=5 0=@17", "1=@17 1=@17", "0=5 1=@17 1=@17", "-1=5 0=@17"},
		1: {"0=1 1=@2 2=@3", "1=@2 2=@3 3=4", "0=1 1=@2 3=4", "0=1 1=@2 2=@3 4=4", "0=1 1=@2 2=@3 3=4 4=5", "0=1 1=@2 2=@3 3=4 4=@5", "0=1 2=@2 1=@3 3=4", "1=1 2=@2 3=@3 4=4"},
		4: {"0=1 1=2 2=@3 3=4 4=@5 5=@6 6=@7", "1=2 2=@3 3=4 4=@5 5=@6 6=@7 7=8", "0=1 1=2 2=@3 3=4 4=@5 5=@6 6=@7 7=8 8=9", "0=1 1=2 2=@3 3=4 4=@5 5=@6 6=@7 8=8"},
		5: {"0=@7", "1=@7", "0=@7 1=@7 2=@7", "0=@7 2=@7", "1=@7 2=@7"},
	} {
		for _, cells := range wrong {
			wantFieldsTold(t, p, objectMsg(class, cells), "-")
		}
	}
}

// A Ref where the type is `I`, and none where it is a class; what is no value.
func TestFieldsOfOtherTypes(t *testing.T) {
	p := memoryProg(t)
	for class, wrong := range map[int][]string{
		0: {"0=@5 1=@17", "0=5 1=17", "0=@5 1=17", "0=@0 1=@0", "0=0 1=0", "0=2147483648 1=@17", "0=-2147483649 1=@17", "0=5 1=@-1", "0=5 1=@1000001"},
		1: {"0=1 1=@2 2=@3 3=@4", "0=1 1=@2 2=3 3=4", "0=1 1=2 2=@3 3=4", "0=@1 1=@2 2=@3 3=4", "0=1 1=@2 2=@3 3=2147483648", "0=1 1=@2 2=@1000001 3=4"},
		2: {"0=5 1=@1 2=@2 3=6 4=3", "0=5 1=@1 2=@2 3=@6 4=@3"},
		4: {"0=1 1=2 2=@3 3=4 4=@5 5=@6 6=@7 7=@8", "0=@1 1=2 2=@3 3=4 4=@5 5=@6 6=@7 7=8", "0=1 1=2 2=@3 3=4 4=5 5=@6 6=@7 7=8"},
		5: {"0=7 1=@7", "0=@7 1=7", "0=7 1=7", "0=0 1=@0"},
	} {
		for _, cells := range wrong {
			wantFieldsTold(t, p, objectMsg(class, cells), "-")
		}
	}
}

func TestFieldsOfOtherMessages(t *testing.T) {
	p := memoryProg(t)
	right := objectMsg(0, "0=5 1=@17")
	bare := objectMsg(3, "")
	turn := func(told func(m *impl.Msg)) {
		t.Helper()
		for _, m := range []impl.Msg{right, bare} {
			m = cloneMsg(m)
			told(&m)
			wantFieldsTold(t, p, m, "-")
		}
	}
	// Each other kind, as it is right and with what an object has.
	for _, k := range kindsOfMsg() {
		if k.kind != impl.MgObject {
			wantFieldsTold(t, p, fullMsg(k), "-")
			wantFieldsTold(t, p, leastMsg(k), "-")
			turn(func(m *impl.Msg) { m.Kind = k.kind })
		}
	}
	wantFieldsTold(t, p, impl.Msg{Kind: impl.MgDiff, Id: 7, Cells: right.Cells}, "-")
	for _, n := range append(edgeNumbers(), 0, 11, 258) {
		turn(func(m *impl.Msg) { m.Kind = n })
	}
	// What is not MsgOk.
	for _, n := range append(edgeNumbers(), 0, impl.MaxId+1) {
		turn(func(m *impl.Msg) { m.Id = n })
	}
	for _, n := range append(edgeNumbers(), impl.MaxNum+1) {
		turn(func(m *impl.Msg) { m.Version = n })
	}
	for _, n := range append(edgeNumbers(), 1, 17) {
		turn(func(m *impl.Msg) { m.Who = n })
	}
	turn(func(m *impl.Msg) { m.Notes = someNotes() })
	turn(func(m *impl.Msg) { m.Notes = make([]impl.Note, 1) })
	for _, m := range append(wrongMsgs(), impl.Msg{}) {
		wantFieldsTold(t, p, m, "-")
	}
	// Classes that there are not, and a Prog that has none.
	for _, n := range append(edgeNumbers(), 6, 7, 254, 255, 256, 1<<32) {
		turn(func(m *impl.Msg) { m.Class = n })
	}
	for class := range 256 {
		m := objectMsg(class, "")
		wantFieldsTold(t, impl.Prog{}, m, "-")
		m.Cells = right.Cells
		wantFieldsTold(t, impl.Prog{}, m, "-")
	}
}

// FieldsOf asks of a program only for its classes and their fields, however many there are; of what MsgOk says, for no more than that has.
func TestFieldsOfOtherPrograms(t *testing.T) {
	var counts [2]int
	for _, q := range append(otherProgs(memoryProg(t)), impl.Prog{Kinds: make([]impl.Kind, 300)}) {
		for class := range 7 {
			for _, cells := range []string{"", "0=5", "0=@5", "0=5 1=@6", "0=@5 1=@6", "0=5 1=@1 2=@2 3=6", "0=5 1=@1 2=@2 3=6 4=@7", "0=1 1=2 2=@3 3=4 4=@5 5=@6 6=@7 7=8"} {
				counts[flagVal(wantFieldsOf(t, q, objectMsg(class, cells))).N]++
			}
		}
	}
	if counts[0] < 3000 || counts[1] < 900 {
		t.Errorf("%v", counts)
	}
	many := impl.Prog{Kinds: make([]impl.Kind, 300)}
	wantFieldsTold(t, many, objectMsg(255, ""), "")
	wantFieldsTold(t, many, objectMsg(256, ""), "-")
	wantFieldsTold(t, many, objectMsg(299, ""), "-")
	// More fields than a message has cells.
	many.Kinds[0].Fields = slices.Repeat([]impl.Field{{Name: "n", Type: "I"}}, 9)
	wantFieldsTold(t, many, objectMsg(0, "0=1 1=2 2=3 3=4 4=5 5=6 6=7 7=8 8=9"), "-")
	wantFieldsTold(t, many, objectMsg(0, "0=1 1=2 2=3 3=4 4=5 5=6 6=7 7=8"), "-")
	// A type that is no class is none of words, either.
	many.Kinds[1].Fields = []impl.Field{{Name: "n", Type: "None"}, {Name: "m", Type: "I"}, {Name: "o"}}
	wantFieldsTold(t, many, objectMsg(1, "0=@1 1=2 2=@3"), "@1 2 @3")
	wantFieldsTold(t, many, objectMsg(1, "0=1 1=2 2=@3"), "-")
	wantFieldsTold(t, many, objectMsg(1, "0=@1 1=2 2=3"), "-")
}

// msgInts points to each number of a message.
func msgInts(m *impl.Msg) []*int {
	ints := []*int{&m.Kind, &m.Id, &m.Who, &m.Class, &m.Version}
	for i := range m.Cells {
		ints = append(ints, &m.Cells[i].At, &m.Cells[i].Val.N)
	}
	return ints
}

func TestFieldsOfTurnedMessages(t *testing.T) {
	p := memoryProg(t)
	var counts [2]int
	want := func(m impl.Msg) { counts[flagVal(wantFieldsOf(t, p, m)).N]++ }
	for _, master := range mastersOf(someMasters) {
		msg := impl.ObjectMsg(master)
		want(msg)
		for i := range msgInts(&msg) {
			for _, n := range append(edgeNumbers(), 0, 1, 2, 3, 4, 5, 6, 7, 8, 17, 255, 256, impl.MaxId, impl.MaxId+1, impl.MaxNum, impl.MaxNum+1, 1<<31-1, 1<<31, -1<<31, -1<<31-1) {
				m := cloneMsg(msg)
				*msgInts(&m)[i] = n
				want(m)
			}
		}
		for i := range msg.Cells {
			m := cloneMsg(msg)
			m.Cells[i].Val.Ref = !m.Cells[i].Val.Ref
			want(m)
		}
		for _, cells := range turnedLists(msg.Cells) {
			m := msg
			m.Cells = cells
			want(m)
		}
	}
	if counts[0] < 1000 || counts[1] < 300 {
		t.Errorf("%v", counts)
	}
}

// An object is told as it is.
func TestObjectsAreToldAsTheyAre(t *testing.T) {
	p := memoryProg(t)
	list := mastersOf(someMasters)
	for _, version := range []int{1, 2, impl.MaxNum - 1, impl.MaxNum} {
		for _, id := range []int{1, 2, impl.MaxId} {
			for class := range p.Kinds {
				list = append(list, impl.Master{Id: id, Class: class, Version: version, Fields: freshThere(p, class)})
			}
		}
	}
	for _, m := range list {
		told := impl.ObjectMsg(m)
		come, ok := impl.MsgOf(impl.MsgBytes(told))
		if !ok || !sameMsg(come, told) || come.Kind != impl.MgObject || come.Id != m.Id || come.Class != m.Class || come.Version != m.Version {
			t.Fatalf("%+v is told as %+v", m, told)
		}
		if fields, ok := impl.FieldsOf(p, come); !ok || !slices.Equal(fields, m.Fields) {
			t.Fatalf("%+v is told as %q, %v", m, tellVals(fields), ok)
		}
	}
}

// patchedThere tells by itself what PatchMaster has to answer, and putMasterThere PutMaster of masters that ascend.
func patchedThere(list []impl.Master, id int, cells []impl.Cell) ([]impl.Master, int) {
	out, i := cloneMasters(list), masterPlaceThere(list, id)
	if i < 0 || list[i].Version == 16777215 {
		return out, 0
	}
	out[i].Fields = patchThere(list[i].Fields, cells)
	out[i].Version++
	return out, out[i].Version
}

func putMasterThere(list []impl.Master, id, class int, fields []impl.Val) []impl.Master {
	out := cloneMasters(list)
	if _, there := masterThere(list, id); there {
		return out
	}
	out = append(out, impl.Master{Id: id, Class: class, Version: 1, Fields: slices.Clone(fields)})
	slices.SortFunc(out, func(a, b impl.Master) int { return a.Id - b.Id })
	return out
}

// All short lists of masters, right and wrong ones.
func TestShortMasters(t *testing.T) {
	p := memoryProg(t)
	var counts [2]int
	for _, list := range shortLists(3, mastersOf("1.3 +1; 4.0 +16777214 5 @6; 4.0 +16777215 6 @7; 7.0 +3 5 @6; 1000000.5 +9 @1 @2; 9.3 +0")...) {
		right := mastersRight(p, list)
		if impl.MastersOk(p, list) != right {
			t.Fatalf("MastersOk of %s", tellMasters(list))
		}
		counts[flagVal(right).N]++
		for _, id := range []int{0, 1, 2, 4, 5, 7, 8, impl.MaxId} {
			for _, cells := range []string{"", "1=@9", "0=4 0=3 2=1"} {
				got, version := impl.PatchMaster(list, id, cellsOf(cells))
				if want, n := patchedThere(list, id, cellsOf(cells)); !sameMasters(got, want) || version != n || impl.MastersOk(p, got) != mastersRight(p, got) {
					t.Fatalf("PatchMaster of %d in %s is %s, %d", id, tellMasters(list), tellMasters(got), version)
				}
			}
			if slices.IsSortedFunc(list, func(a, b impl.Master) int { return a.Id - b.Id }) {
				got := impl.PutMaster(list, id, 0, valsOf("1 @2"))
				if !sameMasters(got, putMasterThere(list, id, 0, valsOf("1 @2"))) || right && id > 0 && !impl.MastersOk(p, got) {
					t.Fatalf("PutMaster of %d in %s is %s", id, tellMasters(list), tellMasters(got))
				}
			}
		}
	}
	// None, one, two and three of the five that have a Version, as they ascend; the two of one Id do not stand beside each other.
	if counts != [2]int{259 - 1 - 5 - 9 - 7, 1 + 5 + 9 + 7} {
		t.Errorf("%v", counts)
	}
}

// patchEach patches one object with what comes, in that order, and tells its last version.
func patchEach(t *testing.T, list []impl.Master, id int, come ...[]impl.Cell) []impl.Master {
	t.Helper()
	was, _ := masterThere(list, id)
	for i, cells := range come {
		var version int
		if list, version = impl.PatchMaster(list, id, cells); version != was.Version+1+i {
			t.Fatalf("what comes as number %d makes version %d of %d", i, version, was.Version)
		}
	}
	return list
}

func TestWhatTwoChangedApart(t *testing.T) {
	for _, x := range [][4]string{
		{"7.0 +3 5 @17", "0=6", "1=@18", "7.0 +5 6 @18"},
		{"7.0 +3 5 @17", "", "1=@18", "7.0 +5 5 @18"},
		{"7.0 +3 5 @17", "0=5", "1=@17", "7.0 +5 5 @17"},
		{"7.3 +3", "", "", "7.3 +5"},
		{"7.1 +1 5 @17 @0 8", "0=6 3=9", "1=@1 2=@2", "7.1 +3 6 @1 @2 9"},
		{"7.1 +1 5 @17 @0 8", "3=9 0=6", "2=@2", "7.1 +3 6 @17 @2 9"},
		{"7.1 +1 5 @17 @0 8", "3=9 3=10", "0=1 0=2 9=3", "7.1 +3 2 @17 @0 10"},
		{"7.4 +16777213 1 2 @3 4 @5 @6 @7 8", "0=-1 2=@1 4=@1 6=@1", "1=-2 3=-4 5=@1 7=-8", "7.4 +16777215 -1 -2 @1 -4 @1 @1 @1 -8"},
		{"5.0 +9 1 @1; 7.0 +3 5 @17; 9.0 +16777215 2 @2", "0=6", "1=@18", "5.0 +9 1 @1; 7.0 +5 6 @18; 9.0 +16777215 2 @2"},
	} {
		was, a, b := mastersOf(x[0]), cellsOf(x[1]), cellsOf(x[2])
		first, second := patchEach(t, was, 7, a, b), patchEach(t, was, 7, b, a)
		if tellMasters(first) != x[3] || tellMasters(second) != x[3] {
			t.Errorf("%s, %q and %q: %s, and the other way round %s", x[0], x[1], x[2], tellMasters(first), tellMasters(second))
		}
	}
}

// P23: what two changed apart is there in any order in which it comes home.
func TestWhatTwoChangedApartIsThere(t *testing.T) {
	t.Parallel()
	d := dice(23)
	apart := 0
	for range 8000 {
		was := d.fewVals(d.below(impl.MaxFields + 1))
		one := d.below(256)
		other := d.below(256) &^ one
		a, b := d.changed(was, one), d.changed(was, other)
		list := mastersOf("5.0 +9 1 @1; 7.0 +3; 9.0 +2 2 @2")
		list[1].Fields, list[1].Version = was, 1+d.below(impl.MaxNum-2)
		cells, more := impl.DiffOf(was, a), impl.DiffOf(was, b)
		first, second := patchEach(t, list, 7, cells, more), patchEach(t, list, 7, more, cells)
		if !sameMasters(first, second) || !sameMaster(first[0], list[0]) || !sameMaster(first[2], list[2]) || first[1].Version != list[1].Version+2 {
			t.Fatalf("%q, %q, %q: %s, and the other way round %s", tellVals(was), tellVals(a), tellVals(b), tellMasters(first), tellMasters(second))
		}
		for at, v := range first[1].Fields {
			switch {
			case a[at] != was[at] && v != a[at], b[at] != was[at] && v != b[at], a[at] == was[at] && b[at] == was[at] && v != was[at]:
				t.Fatalf("%q, %q, %q: %s", tellVals(was), tellVals(a), tellVals(b), tellMasters(first))
			}
		}
		apart += flagVal(len(cells) > 0 && len(more) > 0).N
	}
	if apart < 3000 {
		t.Errorf("%d", apart)
	}
}

// P23, too: so is what of all short lists stands apart, and what several changed.
func TestShortListsComeHome(t *testing.T) {
	apart := 0
	lists := shortLists(2, word(0, 5), word(0, 6), ref(1, 5), word(3, 7), word(-1, 8), ref(4, 9))
	was := mastersOf("7.1 +1 1 @2 @3 4")
	for _, a := range lists {
		for _, b := range lists {
			if !apartThere(a, b) {
				continue
			}
			apart++
			if first, second := patchEach(t, was, 7, a, b), patchEach(t, was, 7, b, a); !sameMasters(first, second) {
				t.Fatalf("%q and %q: %s, and the other way round %s", tellCells(a), tellCells(b), tellMasters(first), tellMasters(second))
			}
		}
	}
	if apart < 800 {
		t.Errorf("%d", apart)
	}
	a, b, c := cellsOf("0=5"), cellsOf("1=@6 2=@7"), cellsOf("3=8")
	for _, come := range [][][]impl.Cell{{a, b, c}, {a, c, b}, {b, a, c}, {b, c, a}, {c, a, b}, {c, b, a}} {
		if got := patchEach(t, was, 7, come...); tellMasters(got) != "7.1 +4 5 @6 @7 8" {
			t.Errorf("%v: %s", come, tellMasters(got))
		}
	}
}

// What two copies of one object were written comes home, and goes out again as it is there.
func TestTwoCopiesComeHome(t *testing.T) {
	p := memoryProg(t)
	for _, turned := range []bool{false, true} {
		home := impl.PutMaster(nil, 18, 1, valsOf("1 @2 @3 4"))
		master, _ := impl.MasterOf(home, 18)
		fields, _ := impl.FieldsOf(p, impl.ObjectMsg(master))
		come := [2][]impl.Cell{}
		for i := range come {
			copies := impl.PutCopy(nil, 18, master.Class, master.Version, fields)
			copies, _ = impl.WriteCopy(copies, 18, 3*i, wordVal(10+i))
			copies, _ = impl.WriteCopy(copies, 18, 1+i, refVal(20+i))
			c, _ := impl.CopyOf(copies, 18)
			come[i] = impl.DiffOf(c.Twin, c.Fields)
		}
		if turned {
			slices.Reverse(come[:])
		}
		home = patchEach(t, home, 18, come[0], come[1])
		master, _ = impl.MasterOf(home, 18)
		fields, ok := impl.FieldsOf(p, impl.ObjectMsg(master))
		if !ok || tellVals(fields) != "10 @20 @21 11" || master.Version != 3 || !impl.MastersOk(p, home) {
			t.Errorf("%v: %s", turned, tellMasters(home))
		}
	}
}

// A masterEntry keeps each field by itself.
type masterEntry struct {
	class, version int
	fields         map[int]impl.Val
}

// A masterBook keeps masters without any order.
type masterBook map[int]masterEntry

func (x masterBook) masters() []impl.Master {
	var list []impl.Master
	for _, id := range slices.Sorted(maps.Keys(x)) {
		m := impl.Master{Id: id, Class: x[id].class, Version: x[id].version}
		for at := range len(x[id].fields) {
			m.Fields = append(m.Fields, x[id].fields[at])
		}
		list = append(list, m)
	}
	return list
}

func (x masterBook) puts(id, class, version int, fields []impl.Val) bool {
	if _, there := x[id]; there {
		return false
	}
	x[id] = masterEntry{class, version, maps.Collect(slices.All(fields))}
	return true
}

func (x masterBook) patches(id int, cells []impl.Cell) int {
	e, there := x[id]
	if !there || e.version == impl.MaxNum {
		return 0
	}
	for _, c := range cells {
		if _, has := e.fields[c.At]; has {
			e.fields[c.At] = c.Val
		}
	}
	e.version++
	x[id] = e
	return e.version
}

// A masterRun goes on with masters, beside a book of them.
type masterRun struct {
	dice
	p    impl.Prog
	book masterBook
	list []impl.Master
	ids  []int
	done map[string]int
}

func (x *masterRun) someFields(class int) []impl.Val {
	list := freshThere(x.p, class)
	for at := range list {
		list[at].N = x.below(9)
	}
	return list
}

// someCellsOf are of the types that the fields have; some are of no place, some of one place twice.
func (x *masterRun) someCellsOf(id int) []impl.Cell {
	var cells []impl.Cell
	fields := freshThere(x.p, x.book[id].class)
	for range x.below(5) {
		at := x.below(len(fields)+3) - 1
		v := wordVal(x.below(9))
		if at >= 0 && at < len(fields) {
			v.Ref = fields[at].Ref
		}
		cells = append(cells, impl.Cell{At: at, Val: v})
	}
	return cells
}

// step does one thing to both.
func (x *masterRun) step(t *testing.T) {
	t.Helper()
	id, was, deed := x.ids[x.below(len(x.ids))], x.list, x.of("put", "patch", "patch", "patch", "tell")
	switch deed {
	case "put":
		class := x.below(6)
		fields := x.someFields(class)
		x.list = impl.PutMaster(was, id, class, fields)
		if !x.book.puts(id, class, 1, fields) {
			deed = "put again"
		}
	case "patch":
		cells := x.someCellsOf(id)
		want := x.book.patches(id, cells)
		var version int
		if x.list, version = impl.PatchMaster(was, id, cells); version != want {
			t.Fatalf("%s: PatchMaster of %d is %d in place of %d", tellMasters(was), id, version, want)
		}
		if version == 0 {
			deed = "patch none"
		}
	case "tell":
		m, ok := impl.MasterOf(was, id)
		fields, told := impl.FieldsOf(x.p, impl.ObjectMsg(m))
		if e, there := x.book[id]; ok != there || told != there || m.Version != e.version || m.Class != e.class || !maps.Equal(maps.Collect(slices.All(fields)), e.fields) {
			t.Fatalf("%s: of %d is told %q, %v", tellMasters(was), id, tellVals(fields), told)
		}
	}
	x.done[deed]++
	if want := x.book.masters(); !sameMasters(x.list, want) || !impl.MastersOk(x.p, x.list) {
		t.Fatalf("%s of %d makes of %s %s in place of %s", deed, id, tellMasters(was), tellMasters(x.list), tellMasters(want))
	}
}

// Whatever is put, patched and told of, in whatever order, is as one book without any order has it; and it stays right.
func TestMastersAreAsABookOfThem(t *testing.T) {
	t.Parallel()
	done := map[string]int{}
	for seed := range 80 {
		x := masterRun{dice: dice(2300 + seed), p: memoryProg(t), book: masterBook{}, ids: []int{1, 2, 5, 17, 18, 90, 91, impl.MaxId}, done: done}
		// Some begin close to their limit.
		for _, id := range []int{5, 90} {
			class := x.below(6)
			x.book.puts(id, class, impl.MaxNum-x.below(9), x.someFields(class))
		}
		x.list = x.book.masters()
		for range 120 {
			x.step(t)
		}
	}
	for _, deed := range []string{"put", "put again", "patch", "patch none", "tell"} {
		if done[deed] < 400 {
			t.Errorf("%s is done %d times", deed, done[deed])
		}
	}
}

// P33: what is far too much is answered, too; no chapter says how many masters there may be.
func TestMastersThatAreFarTooMany(t *testing.T) {
	t.Parallel()
	const many = 1 << 17
	p := memoryProg(t)
	list := make([]impl.Master, many)
	for i := range list {
		list[i] = impl.Master{Id: i + 1, Class: 5, Version: 1 + i, Fields: valsOf("@0 @1")}
	}
	if !impl.MastersOk(p, list) {
		t.Error("MastersOk")
	}
	if m, ok := impl.MasterOf(list, many); !ok || m.Version != many {
		t.Error("MasterOf")
	}
	got, version := impl.PatchMaster(list, many, cellsOf("1=@7"))
	if version != many+1 || len(got) != many || tellMasters(got[many-1:]) != "131072.5 +131073 @0 @7" || !sameMasters(got[:many-1], list[:many-1]) {
		t.Error("PatchMaster")
	}
	if put := impl.PutMaster(list, impl.MaxId, 3, nil); len(put) != many+1 || !impl.MastersOk(p, put) || put[many].Id != impl.MaxId {
		t.Error("PutMaster behind many")
	}
	if put := impl.PutMaster(list, many, 3, nil); !sameMasters(put, list) {
		t.Error("PutMaster of the last of many")
	}
	if impl.MastersOk(p, make([]impl.Master, many)) || len(impl.PutMaster(make([]impl.Master, many), 0, 1, nil)) != many {
		t.Error("many that are nothing")
	}
	wide := impl.PutMaster(nil, 1, 5, make([]impl.Val, many))
	wide, version = impl.PatchMaster(wide, 1, slices.Repeat([]impl.Cell{ref(many-1, 3)}, many))
	msg := impl.ObjectMsg(wide[0])
	if version != 2 || len(msg.Cells) != many || msg.Cells[many-1] != ref(many-1, 3) || impl.MastersOk(p, wide) {
		t.Error("many fields")
	}
	wantFieldsTold(t, p, msg, "-")
	if kinds := (impl.Prog{Kinds: make([]impl.Kind, many)}); !impl.MastersOk(kinds, []impl.Master{{Id: 1, Class: many - 1, Version: 1}}) {
		t.Error("many classes")
	}
}

// A keeper tells whether lists are as they were, up to the end of the spare room behind them, and spoils them.
type keeper struct {
	stays []func() bool
	spoil []func()
}

func keepList[T any](k *keeper, list []T, same func(a, b T) bool, with T) {
	whole := list[:cap(list)]
	were := slices.Clone(whole)
	k.stays = append(k.stays, func() bool { return slices.EqualFunc(whole, were, same) })
	k.spoil = append(k.spoil, func() { spoilAll(whole, with) })
}

func equal[T comparable](a, b T) bool { return a == b }

func (k *keeper) masters(list []impl.Master) {
	for _, m := range list[:cap(list)] {
		keepList(k, m.Fields, equal, refVal(55))
	}
	keepList(k, list, sameMaster, impl.Master{Id: 55})
}

func (k *keeper) untouched() bool {
	return !slices.ContainsFunc(k.stays, func(stays func() bool) bool { return !stays() })
}

func (k *keeper) spoilAll() {
	for _, spoil := range k.spoil {
		spoil()
	}
}

// A homeGiven is what the chapter's functions are asked of, a homeTold what they answer.
type homeGiven struct {
	masters []impl.Master
	fields  []impl.Val
	cells   []impl.Cell
}

type homeTold struct {
	masters []impl.Master
	fields  []impl.Val
	cells   []impl.Cell
	numbers []int
}

func (x homeTold) String() string {
	return fmt.Sprint(tellMasters(x.masters), " | ", tellVals(x.fields), " | ", tellCells(x.cells), " | ", x.numbers)
}

// roomyGiven has spare room behind each of its lists.
func roomyGiven(masters []impl.Master, fields, cells string) homeGiven {
	var x homeGiven
	x.masters = cloneMasters(masters)
	for i, m := range x.masters {
		x.masters[i].Fields, _ = roomy(m.Fields, refVal(77))
	}
	x.masters, _ = roomy(x.masters, impl.Master{Id: 100, Class: 3, Version: 1})
	x.fields, _ = roomy(valsOf(fields), refVal(78))
	x.cells, _ = roomy(cellsOf(cells), ref(0, 79))
	return x
}

func (x homeGiven) kept() *keeper {
	k := &keeper{}
	k.masters(x.masters)
	keepList(k, x.fields, equal, refVal(56))
	keepList(k, x.cells, equal, ref(0, 57))
	return k
}

func (x homeTold) kept() *keeper {
	return homeGiven{x.masters, x.fields, x.cells}.kept()
}

// apart: no two lists of fields share memory, up to the end of their spare room.
func (x homeTold) apart() bool { return copiesApart(copiesAs(x.masters[:cap(x.masters)])) }

// A homeAsk is one function, asked of what is given.
type homeAsk struct {
	what string
	ask  func(x homeGiven) homeTold
}

func homeAsks(p impl.Prog) []homeAsk {
	var asks []homeAsk
	add := func(what string, ask func(x homeGiven) homeTold) { asks = append(asks, homeAsk{what, ask}) }
	for _, id := range []int{-1, 0, 1, 5, 7, 8, 9, 100, impl.MaxId} {
		add(fmt.Sprint("MasterOf ", id), func(x homeGiven) homeTold {
			m, ok := impl.MasterOf(x.masters, id)
			return homeTold{masters: []impl.Master{m}, numbers: []int{flagVal(ok).N}}
		})
		add(fmt.Sprint("PutMaster of ", id), func(x homeGiven) homeTold { return homeTold{masters: impl.PutMaster(x.masters, id, 0, x.fields)} })
		add(fmt.Sprint("PatchMaster of ", id), func(x homeGiven) homeTold {
			list, version := impl.PatchMaster(x.masters, id, x.cells)
			return homeTold{masters: list, numbers: []int{version}}
		})
		add(fmt.Sprint("PatchMaster behind PutMaster of ", id), func(x homeGiven) homeTold {
			list, version := impl.PatchMaster(impl.PutMaster(x.masters, id, 0, x.fields), id, x.cells)
			return homeTold{masters: list, numbers: []int{version}}
		})
	}
	add("ObjectMsg", func(x homeGiven) homeTold {
		m := impl.ObjectMsg(impl.Master{Id: 7, Class: 1, Version: 2, Fields: x.fields})
		return homeTold{cells: m.Cells, numbers: []int{m.Kind, m.Id, m.Who, m.Class, m.Version, len(m.Notes)}}
	})
	for class := range 7 {
		add(fmt.Sprint("FieldsOf of class ", class), func(x homeGiven) homeTold {
			fields, ok := impl.FieldsOf(p, impl.Msg{Kind: impl.MgObject, Id: 7, Class: class, Version: 2, Cells: x.cells})
			return homeTold{fields: fields, numbers: []int{flagVal(ok).N}}
		})
	}
	add("MastersOk and HomeOf", func(x homeGiven) homeTold {
		return homeTold{numbers: []int{flagVal(impl.MastersOk(p, x.masters)).N, impl.HomeOf(len(x.fields)-2, 3), impl.HomeOf(len(x.cells), 0)}}
	})
	return asks
}

// mastersForMemory: right and wrong ones; in some, two lists are one, or stand one behind the other.
func mastersForMemory() [][]impl.Master {
	var lists [][]impl.Master
	for _, copies := range copiesForMemory() {
		lists = append(lists, mastersAs(copies))
	}
	return append(lists, mastersOf(someMasters), mastersOf("7.0 +16777215 5 @0; 8.3 +16777215"), mastersOf("5.0 +1 1 @1; 7.0 +16777214 2 @2; 9.0 +3 3 @3"))
}

func fieldsForHome() []string { return []string{"8 @9", "", "1 2 3 4 5 6 7 8 9"} }

func cellsForHome() []string {
	return []string{"", "0=5 1=@6", "1=@6", "0=@5 1=@6", "0=5 1=@1 2=@2 3=6", "1=2 0=3 -1=4 0=5 9=7"}
}

// P33: nothing that is handed in is written, nor the spare room behind it; an answer shares no memory with it, nor with another answer, nor do two
// lists of one answer with each other.
func TestMastersAreNewMemory(t *testing.T) {
	t.Parallel()
	asks := homeAsks(memoryProg(t))
	for i, list := range mastersForMemory() {
		for _, fields := range fieldsForHome() {
			for _, cells := range cellsForHome() {
				for _, x := range asks {
					given := roomyGiven(list, fields, cells)
					if i%2 == 1 {
						// As they stand, with what they share; they are spoilt at the end.
						given.masters = shareAgain(list)
					}
					k := given.kept()
					first, second := x.ask(given), x.ask(given)
					want := second.String()
					if first.String() != want || !k.untouched() {
						t.Fatalf("%s writes into %s", x.what, tellMasters(list))
					}
					if !x.ask(given).apart() {
						t.Fatalf("two lists of what %s makes of %s share memory", x.what, tellMasters(list))
					}
					first.kept().spoilAll()
					if second.String() != want || !k.untouched() {
						t.Fatalf("what %s makes of %s shares memory", x.what, tellMasters(list))
					}
					k.spoilAll()
					if second.String() != want {
						t.Fatalf("what %s makes of %s shares memory with it", x.what, tellMasters(list))
					}
				}
			}
		}
	}
}

// shareAgain is a list like it, of which the Fields are pieces of one whole, each with the next one as its spare room.
func shareAgain(list []impl.Master) []impl.Master {
	var whole []impl.Val
	for _, m := range list {
		whole = append(whole, m.Fields...)
	}
	whole = append(whole, refVal(77), refVal(78))
	out := slices.Clone(list)
	at := 0
	for i, m := range list {
		out[i].Fields = whole[at : at+len(m.Fields)]
		at += len(m.Fields)
	}
	return out
}

// P33: a program and a message are not written, either.
func TestMastersWriteNoProgram(t *testing.T) {
	for _, p := range progsForMemory(t) {
		for _, list := range mastersForMemory() {
			prog, given := roomyProg(p), roomyGiven(list, "", "")
			wholeP, k := cloneProg(wholeProg(prog)), given.kept()
			impl.MastersOk(prog, given.masters)
			for _, m := range given.masters {
				msg := roomyMsg(impl.ObjectMsg(m))
				were := wholeMsgs([]impl.Msg{msg})
				first, ok := impl.FieldsOf(prog, msg)
				second, _ := impl.FieldsOf(prog, msg)
				spoilAll(first, refVal(55))
				if !wholeMsgsSame([]impl.Msg{msg}, were) || ok && !slices.Equal(second, m.Fields) {
					t.Fatalf("FieldsOf of %+v writes into it, or shares its memory", msg)
				}
			}
			if !sameProg(prog, p) || !sameProg(wholeProg(prog), wholeP) || !k.untouched() {
				t.Fatalf("%s: a program is written", tellMasters(list))
			}
		}
	}
}

// tellHome tells what the chapter's functions answer of masters.
func tellHome(asks []homeAsk, list []impl.Master) string {
	var told strings.Builder
	for i, x := range asks {
		for _, cells := range cellsForHome() {
			fields := fieldsForHome()[i%3]
			fmt.Fprintln(&told, x.what, x.ask(homeGiven{list, valsOf(fields), cellsOf(cells)}))
		}
	}
	return told.String()
}

// P33: no call leaves anything behind that a later one shows, nor one that goes on beside it.
func TestMastersAreToldAgain(t *testing.T) {
	asks := homeAsks(memoryProg(t))
	tell := func(list []impl.Master) string { return tellHome(asks, list) }
	wantToldAgain(t, mastersForMemory(), tell)
	wantToldAtOnce(t, mastersForMemory(), tell)
}
