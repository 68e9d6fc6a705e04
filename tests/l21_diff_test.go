package tests

import (
	"fmt"
	"maps"
	"math"
	"slices"
	"strings"
	"testing"

	"loop.example/g00283/impl"
)

// cellsOf reads what tellCells tells: "0=5 2=@17" is a word at place 0, and object 17 at place 2.
func cellsOf(told string) []impl.Cell {
	var list []impl.Cell
	for _, part := range strings.Fields(told) {
		place, value, _ := strings.Cut(part, "=")
		x := impl.Cell{Val: valsOf(value)[0]}
		if _, err := fmt.Sscan(place, &x.At); err != nil {
			panic(told)
		}
		list = append(list, x)
	}
	return list
}

func tellCells(list []impl.Cell) string {
	var told []string
	for _, x := range list {
		told = append(told, fmt.Sprintf("%d=%s", x.At, tellVals([]impl.Val{x.Val})))
	}
	return strings.Join(told, " ")
}

// diffThere tells by itself what DiffOf has to answer, and so do patchThere and apartThere.
func diffThere(was, now []impl.Val) []impl.Cell {
	if len(was) != len(now) || len(was) > 8 {
		return nil
	}
	changed := map[int]impl.Val{}
	for at := range was {
		if was[at].Ref != now[at].Ref || was[at].N != now[at].N {
			changed[at] = now[at]
		}
	}
	var list []impl.Cell
	for _, at := range slices.Sorted(maps.Keys(changed)) {
		list = append(list, impl.Cell{At: at, Val: changed[at]})
	}
	return list
}

// patchThere asks of each place which cell is the last one of it.
func patchThere(fields []impl.Val, cells []impl.Cell) []impl.Val {
	var out []impl.Val
	for at, v := range fields {
		for _, x := range slices.Backward(cells) {
			if x.At == at {
				v = x.Val
				break
			}
		}
		out = append(out, v)
	}
	return out
}

func apartThere(a, b []impl.Cell) bool {
	for _, x := range a {
		for _, y := range b {
			if x.At == y.At {
				return false
			}
		}
	}
	return true
}

func wantDiff(t *testing.T, was, now, told string) {
	t.Helper()
	if got := impl.DiffOf(valsOf(was), valsOf(now)); tellCells(got) != told {
		t.Errorf("DiffOf of %q and %q is %q in place of %q", was, now, tellCells(got), told)
	}
}

func TestDiffOf(t *testing.T) {
	// The same.
	wantDiff(t, "", "", "")
	wantDiff(t, "5", "5", "")
	wantDiff(t, "@5", "@5", "")
	wantDiff(t, "1 @2 3", "1 @2 3", "")
	wantDiff(t, "1 2 3 4 5 6 7 8", "1 2 3 4 5 6 7 8", "")
	// At one place: the first, the last, one between.
	wantDiff(t, "1 2 3", "9 2 3", "0=9")
	wantDiff(t, "1 2 3", "1 9 3", "1=9")
	wantDiff(t, "1 2 3", "1 2 9", "2=9")
	wantDiff(t, "5", "6", "0=6")
	wantDiff(t, "1 2 3 4 5 6 7 8", "1 2 3 4 5 6 7 -8", "7=-8")
	wantDiff(t, "1 2 3 4 5 6 7 8", "-1 2 3 4 5 6 7 8", "0=-1")
	// At several, and at all.
	wantDiff(t, "1 @2 3 @4", "1 @3 3 @5", "1=@3 3=@5")
	wantDiff(t, "1 @2 3 @4", "2 @2 3 @5", "0=2 3=@5")
	wantDiff(t, "1 @2 3 @4", "2 @2 4 @4", "0=2 2=4")
	wantDiff(t, "1 @2 3 @4", "2 @3 4 @5", "0=2 1=@3 2=4 3=@5")
	wantDiff(t, "1 2 3 4 5 6 7 8", "8 7 6 5 4 3 2 1", "0=8 1=7 2=6 3=5 4=4 5=3 6=2 7=1")
	// The same values, at other places.
	wantDiff(t, "1 2 3", "3 1 2", "0=3 1=1 2=2")
	wantDiff(t, "1 2 1", "2 1 1", "0=2 1=1")
}

// N alone, and Ref alone.
func TestDiffOfOnePart(t *testing.T) {
	wantDiff(t, "5 @5", "6 @6", "0=6 1=@6")
	wantDiff(t, "5 @5", "@5 5", "0=@5 1=5")
	wantDiff(t, "5 @5", "@5 @5", "0=@5")
	wantDiff(t, "5 @5", "5 5", "1=5")
	wantDiff(t, "0 @0", "@0 @0", "0=@0")
	wantDiff(t, "0 @0", "0 0", "1=0")
	wantDiff(t, "0", "@7", "0=@7")
	wantDiff(t, "@7", "0", "0=0")
	// What was counts for nothing but that it is another one.
	wantDiff(t, "2147483647 -2147483648", "-2147483648 2147483647", "0=-2147483648 1=2147483647")
	wantDiff(t, "1 4294967297", "4294967297 1", "0=4294967297 1=1")
	wantDiff(t, "@1000000 @0", "@0 @1000000", "0=@0 1=@1000000")
}

func TestDiffOfOtherLengths(t *testing.T) {
	whole := strings.Fields("1 2 3 4 5 6 7 8 9 10")
	for long := range len(whole) + 1 {
		for short := range long {
			a, b := strings.Join(whole[:long], " "), strings.Join(whole[:short], " ")
			wantDiff(t, a, b, "")
			wantDiff(t, b, a, "")
			// What both have differs, too.
			wantDiff(t, "-"+a, b, "")
			if short > 0 {
				wantDiff(t, a, "-"+b, "")
			}
		}
	}
}

func TestDiffOfMaxFields(t *testing.T) {
	for size := range 20 {
		was, now := make([]impl.Val, size), make([]impl.Val, size)
		for at := range now {
			now[at] = refVal(at)
		}
		want := size
		if size > impl.MaxFields {
			want = 0
		}
		if got := impl.DiffOf(was, now); len(got) != want || len(impl.DiffOf(was, was)) != 0 || tellCells(got) != tellCells(diffThere(was, now)) {
			t.Errorf("%d fields: %q", size, tellCells(got))
		}
		for at := range size {
			one := slices.Clone(was)
			one[at].N = 5
			if got := impl.DiffOf(was, one); tellCells(got) != tellCells(diffThere(was, one)) || (len(got) == 1) != (size <= impl.MaxFields) {
				t.Errorf("%d fields, another one at %d: %q", size, at, tellCells(got))
			}
		}
	}
	wantDiff(t, "1 2 3 4 5 6 7 8", "1 2 3 4 5 6 7 9", "7=9")
	wantDiff(t, "1 2 3 4 5 6 7 8 9", "1 2 3 4 5 6 7 9 9", "")
	wantDiff(t, "1 2 3 4 5 6 7 8 9", "1 2 3 4 5 6 7 8 0", "")
	wantDiff(t, "1 2 3 4 5 6 7 8 9", "1 2 3 4 5 6 7 8", "")
	wantDiff(t, "1 2 3 4 5 6 7 8", "9 2 3 4 5 6 7 8 9", "")
}

// A Val that is not ValOk is taken as it is.
func TestDiffOfNoValues(t *testing.T) {
	wantDiff(t, "1 2", "2147483648 2", "0=2147483648")
	wantDiff(t, "@-1 @1000001", "@1000001 @-1", "0=@1000001 1=@-1")
	wantDiff(t, "@-1 @1000001", "@-1 @1000001", "")
	wantDiff(t, "-2147483649 4294967296", "-2147483649 0", "1=0")
	for _, n := range append(edgeNumbers(), 0, 5) {
		for _, m := range append(edgeNumbers(), 0, 5) {
			for _, refs := range []bool{false, true} {
				was, now := []impl.Val{{N: n}, {Ref: refs, N: m}}, []impl.Val{{Ref: refs, N: m}, {N: m}}
				if got := impl.DiffOf(was, now); !slices.Equal(got, diffThere(was, now)) {
					t.Errorf("%q, %q: %q", tellVals(was), tellVals(now), tellCells(got))
				}
			}
		}
	}
}

func wantPatch(t *testing.T, fields, cells, told string) {
	t.Helper()
	if got := impl.Patch(valsOf(fields), cellsOf(cells)); tellVals(got) != told {
		t.Errorf("Patch of %q with %q is %q in place of %q", fields, cells, tellVals(got), told)
	}
}

func TestPatch(t *testing.T) {
	// No cell.
	wantPatch(t, "", "", "")
	wantPatch(t, "5", "", "5")
	wantPatch(t, "1 @2 3", "", "1 @2 3")
	// One: at the first place, between, at the last one.
	wantPatch(t, "1 @2 3", "0=9", "9 @2 3")
	wantPatch(t, "1 @2 3", "1=@9", "1 @9 3")
	wantPatch(t, "1 @2 3", "2=9", "1 @2 9")
	wantPatch(t, "5", "0=6", "6")
	wantPatch(t, "1 2 3 4 5 6 7 8", "7=@8", "1 2 3 4 5 6 7 @8")
	// What is there already, N alone, Ref alone.
	wantPatch(t, "1 @2 3", "1=@2", "1 @2 3")
	wantPatch(t, "1 @2 3", "1=@3", "1 @3 3")
	wantPatch(t, "1 @2 3", "1=2", "1 2 3")
	wantPatch(t, "1 @2 3", "2=@3", "1 @2 @3")
	wantPatch(t, "1 @2 3", "0=0 1=@0 2=0", "0 @0 0")
	// Several.
	wantPatch(t, "1 @2 3", "0=7 1=@8 2=9", "7 @8 9")
	wantPatch(t, "1 @2 3", "0=7 2=9", "7 @2 9")
	wantPatch(t, "1 2 3 4 5 6 7 8", "0=-1 3=@0 7=-8", "-1 2 3 @0 5 6 7 -8")
	// In any order, and one behind the other where they are of one place.
	wantPatch(t, "1 @2 3", "2=9 0=7 1=@8", "7 @8 9")
	wantPatch(t, "1 @2 3", "2=9 1=@8 0=7", "7 @8 9")
	wantPatch(t, "1 @2 3", "1=@8 1=@9", "1 @9 3")
	wantPatch(t, "1 @2 3", "1=@9 1=@8", "1 @8 3")
	wantPatch(t, "1 @2 3", "1=@9 1=@2", "1 @2 3")
	wantPatch(t, "1 @2 3", "0=5 2=6 0=7 1=@8 2=9 0=8", "8 @8 9")
	wantPatch(t, "1", "0=2 0=3 0=4 0=5", "5")
	// What no place is shown of is not carried on by another one.
	wantPatch(t, "1 2 1", "0=5", "5 2 1")
}

// More than MaxFields fields or cells are fields and cells like all others.
func TestPatchOfMany(t *testing.T) {
	wantPatch(t, "1 2 3 4 5 6 7 8 9", "8=-9 0=-1", "-1 2 3 4 5 6 7 8 -9")
	wantPatch(t, "1 2 3 4 5 6 7 8 9", "7=-8", "1 2 3 4 5 6 7 -8 9")
	wantPatch(t, "1 2 3 4 5 6 7 8 9", "9=-10", "1 2 3 4 5 6 7 8 9")
	wantPatch(t, "1 2", "0=3 0=4 0=5 0=6 0=7 0=8 0=9 0=10 1=11 1=12", "10 12")
	wantPatch(t, "1 2 3 4 5 6 7 8 9 10", "0=0 1=0 2=0 3=0 4=0 5=0 6=0 7=0 8=0 9=0", "0 0 0 0 0 0 0 0 0 0")
}

// placesBeside are of no place in fields of that size.
func placesBeside(size int) []int {
	return append(edgeNumbers(), size, size+1, size+impl.MaxFields, size+1<<32, -size-1, math.MinInt32, math.MaxInt32)
}

// A cell of a place that there is not changes nothing, wherever it stands.
func TestPatchOfNoPlace(t *testing.T) {
	for _, fields := range []string{"", "1", "1 @2 3", "1 2 3 4 5 6 7 8", "1 2 3 4 5 6 7 8 9"} {
		size := len(valsOf(fields))
		for _, at := range placesBeside(size) {
			wrong := fmt.Sprintf("%d=@5", at)
			wantPatch(t, fields, wrong, fields)
			wantPatch(t, fields, wrong+" "+wrong, fields)
			if size > 2 {
				want := "7" + strings.Replace(fields[1:], "3", "9", 1)
				wantPatch(t, fields, wrong+" 0=7 2=9", want)
				wantPatch(t, fields, "0=7 "+wrong+" 2=9", want)
				wantPatch(t, fields, "0=7 2=9 "+wrong, want)
				wantPatch(t, fields, "0=6 "+wrong+" 0=7 "+wrong+" 2=9 "+wrong, want)
			}
		}
	}
	// Fields that are shorter than the cells tell, and none.
	wantPatch(t, "1 @2", "0=7 1=@8 2=9 3=10", "7 @8")
	wantPatch(t, "1 @2", "3=10 2=9 1=@8 0=7", "7 @8")
	wantPatch(t, "1", "0=7 1=@8 2=9", "7")
	wantPatch(t, "", "0=7 1=@8 2=9", "")
	wantPatch(t, "", "0=7", "")
}

// A Val that is not ValOk is put as it is.
func TestPatchOfNoValues(t *testing.T) {
	for _, n := range append(edgeNumbers(), impl.MaxId+1, math.MaxInt32+1, math.MinInt32-1) {
		for _, refs := range []bool{false, true} {
			fields := []impl.Val{{N: 1}, {Ref: refs, N: n}, {N: 3}}
			x := impl.Cell{At: 2, Val: impl.Val{Ref: refs, N: n}}
			want := []impl.Val{{N: 1}, {Ref: refs, N: n}, {Ref: refs, N: n}}
			if got := impl.Patch(fields, []impl.Cell{x}); !slices.Equal(got, want) {
				t.Errorf("%q", tellVals(got))
			}
		}
	}
}

// wantApart asks either way round.
func wantApart(t *testing.T, a, b string, apart bool) {
	t.Helper()
	if impl.Apart(cellsOf(a), cellsOf(b)) != apart || impl.Apart(cellsOf(b), cellsOf(a)) != apart {
		t.Errorf("Apart of %q and %q", a, b)
	}
}

func TestApart(t *testing.T) {
	// No common place.
	wantApart(t, "0=1", "1=1", true)
	wantApart(t, "0=1 2=1", "1=1 3=1", true)
	wantApart(t, "0=1 1=1 2=1 3=1", "4=1 5=1 6=1 7=1", true)
	wantApart(t, "7=@5", "0=@5 1=@5 2=@5 3=@5 4=@5 5=@5 6=@5", true)
	// One: the first of both, the last of both, the first and the last, one between.
	wantApart(t, "0=1", "0=1", false)
	wantApart(t, "0=1", "0=2", false)
	wantApart(t, "0=1", "0=@1", false)
	wantApart(t, "0=1 2=1", "0=1 3=1", false)
	wantApart(t, "0=1 3=1", "1=1 3=1", false)
	wantApart(t, "0=1 2=1", "2=1 3=1", false)
	wantApart(t, "1=1 3=1 5=1", "2=1 3=1 4=1", false)
	wantApart(t, "7=1", "0=1 7=2", false)
	wantApart(t, "0=1", "0=1 7=2", false)
	// Several, and all.
	wantApart(t, "0=1 2=1 4=1", "2=1 3=1 4=1", false)
	wantApart(t, "0=1 2=@1 4=1", "0=1 2=@1 4=1", false)
	wantApart(t, "0=1 2=@1 4=1", "4=5 0=6 2=7", false)
	// An empty list has no place.
	wantApart(t, "", "", true)
	wantApart(t, "", "0=1", true)
	wantApart(t, "", "0=1 0=1", true)
	wantApart(t, "", "0=1 1=1 2=1 3=1 4=1 5=1 6=1 7=1", true)
	// The same place twice in one list alone; cells that do not ascend.
	wantApart(t, "0=1 0=1", "1=1", true)
	wantApart(t, "0=1 0=2", "1=1 1=2", true)
	wantApart(t, "0=1 0=1", "0=1", false)
	wantApart(t, "5=1 3=1 1=1", "4=1 2=1 0=1", true)
	wantApart(t, "5=1 3=1 1=1", "4=1 3=1 0=1", false)
	wantApart(t, "5=1 3=1 1=1", "0=1 2=1 5=1", false)
	wantApart(t, "3=1 5=1 1=1", "6=1 1=1 4=1", false)
	// The same values stand nowhere in both.
	wantApart(t, "0=5 1=6", "2=5 3=6", true)
	wantApart(t, "0=1 1=0", "3=0 2=1", true)
	// More than MaxFields.
	wantApart(t, "0=1 1=1 2=1 3=1 4=1 5=1 6=1 7=1 8=1", "9=1", true)
	wantApart(t, "0=1 1=1 2=1 3=1 4=1 5=1 6=1 7=1 8=1", "8=1", false)
	wantApart(t, "20=1", "0=1 1=1 2=1 3=1 4=1 5=1 6=1 7=1 8=1 9=1 10=1 20=1", false)
}

// A place that there is not is a place as any other.
func TestApartOfAnyPlace(t *testing.T) {
	places := append(placesBeside(impl.MaxFields), 0, 1, 7)
	for _, at := range places {
		for _, other := range places {
			a, b := fmt.Sprintf("%d=5", at), fmt.Sprintf("%d=@6", other)
			wantApart(t, a, b, at != other)
			wantApart(t, "2=1 "+a+" 4=1", "3=1 5=1 "+b, at != other)
			wantApart(t, "2=1 "+a+" 4=1", b+" 3=1 4=1", false)
		}
		wantApart(t, fmt.Sprintf("%d=5", at), "", true)
		wantApart(t, fmt.Sprintf("%d=5", at), "2=5 3=6", true)
	}
}

func TestApartOfItself(t *testing.T) {
	for _, told := range []string{"0=1", "7=@1", "0=1 0=1", "0=1 1=1 2=1 3=1 4=1 5=1 6=1 7=1", "-1=5", "9=5", "3=1 2=1 1=1"} {
		if list := cellsOf(told); impl.Apart(list, list) {
			t.Errorf("%q is apart of itself", told)
		}
	}
	if !impl.Apart(nil, nil) || !impl.Apart([]impl.Cell{}, nil) || !impl.Apart([]impl.Cell{}, []impl.Cell{}) {
		t.Error("nothing is apart of nothing")
	}
}

// shortLists are all lists of at most that many of the given things.
func shortLists[T any](most int, things ...T) [][]T {
	lists := [][]T{nil}
	for at := 0; at < len(lists); at++ {
		if len(lists[at]) == most {
			break
		}
		for _, x := range things {
			lists = append(lists, append(slices.Clone(lists[at]), x))
		}
	}
	return lists
}

// P21: what is different is patched.
func TestShortDifferences(t *testing.T) {
	lists := shortLists(4, wordVal(0), wordVal(5), refVal(0), refVal(5))
	var counts [6]int
	for _, was := range lists {
		for _, now := range lists {
			got := impl.DiffOf(was, now)
			if !slices.Equal(got, diffThere(was, now)) {
				t.Fatalf("DiffOf of %q and %q is %q", tellVals(was), tellVals(now), tellCells(got))
			}
			if len(was) != len(now) {
				counts[5]++
				continue
			}
			counts[len(got)]++
			if !slices.Equal(impl.Patch(was, got), now) || !slices.Equal(impl.Patch(now, impl.DiffOf(now, was)), was) {
				t.Fatalf("what differs between %q and %q is not patched", tellVals(was), tellVals(now))
			}
		}
	}
	// Of pairs of n values there are 4^n, times 3^k times k out of n where they differ at k places.
	if counts != [6]int{1 + 4 + 16 + 64 + 256, 12 + 96 + 576 + 3072, 144 + 1728 + 13824, 1728 + 27648, 20736, 341*341 - 69905} {
		t.Errorf("%v", counts)
	}
}

func TestShortPatches(t *testing.T) {
	var things []impl.Cell
	for _, at := range []int{-1, 0, 1, 2, 3} {
		things = append(things, word(at, 7), ref(at, 8))
	}
	for _, fields := range []string{"", "1", "@1 2", "1 @2 3", "1 2 3 4"} {
		for _, cells := range shortLists(3, things...) {
			if got, want := impl.Patch(valsOf(fields), cells), patchThere(valsOf(fields), cells); !slices.Equal(got, want) {
				t.Fatalf("Patch of %q with %q is %q in place of %q", fields, tellCells(cells), tellVals(got), tellVals(want))
			}
		}
	}
}

// wantAnyOrder asks whether the two are apart and, if so, patches with the one and then the other, either way round, and with both at once.
func wantAnyOrder(t *testing.T, fields []impl.Val, a, b []impl.Cell) (apart bool) {
	t.Helper()
	apart = apartThere(a, b)
	if impl.Apart(a, b) != apart {
		t.Fatalf("Apart of %q and %q is %v", tellCells(a), tellCells(b), !apart)
	}
	first, second := impl.Patch(impl.Patch(fields, a), b), impl.Patch(impl.Patch(fields, b), a)
	if apart && !slices.Equal(first, second) {
		t.Fatalf("%q: %q and %q are apart, but their order counts", tellVals(fields), tellCells(a), tellCells(b))
	}
	if !slices.Equal(first, impl.Patch(fields, slices.Concat(a, b))) || !slices.Equal(second, patchThere(fields, slices.Concat(b, a))) {
		t.Fatalf("%q: %q and %q one behind the other", tellVals(fields), tellCells(a), tellCells(b))
	}
	return apart
}

// P21: what is apart may be patched in any order.
func TestShortListsApart(t *testing.T) {
	var counts [2]int
	lists := shortLists(3, word(0, 5), word(0, 6), ref(1, 5), word(2, 7), word(-1, 8), ref(4, 9))
	for _, a := range lists {
		for _, b := range lists {
			counts[flagVal(wantAnyOrder(t, valsOf("1 @2 3 4"), a, b)).N]++
		}
	}
	if counts[0] < 30000 || counts[1] < 9000 {
		t.Errorf("%v", counts)
	}
}

func (d *dice) fewVals(size int) []impl.Val {
	list := make([]impl.Val, size)
	for at := range list {
		list[at] = impl.Val{Ref: d.below(3) == 0, N: d.below(3)}
	}
	return list
}

// changed has other values at some of the places.
func (d *dice) changed(was []impl.Val, places int) []impl.Val {
	now := slices.Clone(was)
	for at := range now {
		if places>>at&1 == 1 {
			now[at] = impl.Val{Ref: d.below(3) == 0, N: d.below(3)}
		}
	}
	return now
}

// Two change one object at places that are not the same: what each changed is there, in whichever order it comes.
func TestDifferencesOfTwo(t *testing.T) {
	d := dice(21)
	var counts [2]int
	for range 20000 {
		was := d.fewVals(d.below(impl.MaxFields + 1))
		one := d.below(256)
		other := d.below(256)
		if d.below(2) == 0 {
			other &^= one
		}
		a, b := d.changed(was, one), d.changed(was, other)
		first, second := impl.DiffOf(was, a), impl.DiffOf(was, b)
		apart := wantAnyOrder(t, was, first, second)
		counts[flagVal(apart).N]++
		if !slices.Equal(impl.Patch(was, first), a) || !slices.Equal(impl.Patch(was, second), b) {
			t.Fatalf("%q, %q, %q", tellVals(was), tellVals(a), tellVals(b))
		}
		both := impl.Patch(a, second)
		if len(was) == 0 || !apart {
			continue
		}
		if !slices.Equal(impl.DiffOf(a, both), second) || !slices.Equal(impl.DiffOf(b, both), first) {
			t.Fatalf("%q, %q, %q: %q", tellVals(was), tellVals(a), tellVals(b), tellVals(both))
		}
		if len(impl.DiffOf(was, both)) != len(first)+len(second) {
			t.Fatalf("%q, %q, %q: %q", tellVals(was), tellVals(a), tellVals(b), tellVals(both))
		}
	}
	if counts[0] < 3000 || counts[1] < 8000 {
		t.Errorf("%v", counts)
	}
}

// What DiffOf tells is what a message may have of cells.
func TestDifferencesGoIntoMessages(t *testing.T) {
	d := dice(210)
	for range 500 {
		size := d.below(impl.MaxFields + 1)
		m := impl.Msg{Kind: impl.MgDiff, Id: 5, Cells: impl.DiffOf(d.fewVals(size), d.fewVals(size))}
		got, ok := impl.MsgOf(impl.MsgBytes(m))
		if !impl.MsgOk(m) || !ok || !slices.Equal(got.Cells, m.Cells) {
			t.Fatalf("%q", tellCells(m.Cells))
		}
	}
}

// P33: what is far too much is answered, too.
func TestDifferencesThatAreFarTooGreat(t *testing.T) {
	const many = 1 << 18
	fields, now := make([]impl.Val, many), make([]impl.Val, many)
	cells, odd := make([]impl.Cell, many), make([]impl.Cell, many)
	for at := range many {
		now[at] = refVal(at)
		cells[at], odd[at] = impl.Cell{At: many - 1 - at, Val: refVal(many - 1 - at)}, word(many+at, 5)
	}
	if !slices.Equal(impl.Patch(fields, cells), now) || !slices.Equal(impl.Patch(fields, odd), fields) {
		t.Error("Patch")
	}
	if len(impl.DiffOf(fields, now)) != 0 || len(impl.DiffOf(fields, nil)) != 0 {
		t.Error("DiffOf")
	}
	if !impl.Apart(cells, odd) || !impl.Apart(odd, cells) || impl.Apart(cells, cells) {
		t.Error("Apart")
	}
	odd[many-1].At = 0
	if impl.Apart(cells, odd) || impl.Apart(odd, cells) || impl.Patch(fields, odd)[0] != wordVal(5) {
		t.Error("one common place behind many")
	}
}

func valsForMemory() []string {
	return []string{"", "5", "@5", "1 @2 3", "1 @3 3", "4 @5 @6", "1 2 3 4 5 6 7 8", "1 2 @3 4 5 6 7 9", "1 2 3 4 5 6 7 8 9", "9 8 7 6 5 4 3 2 1", "@-1 2147483648 @1000001"}
}

func cellsForMemory() []string {
	return []string{"", "0=5", "1=@5", "0=7 1=@8 2=9", "2=9 1=@8 0=7", "0=1 0=2", "-1=5 0=6 8=7", "9=5", "7=@1", "0=2147483648 1=@-1", "0=1 1=1 2=1 3=1 4=1 5=1 6=1 7=1 8=1"}
}

// P33: DiffOf writes into no list nor into the spare room behind it, and what it answers is new memory.
func TestDiffOfIsNewMemory(t *testing.T) {
	for _, first := range valsForMemory() {
		for _, second := range valsForMemory() {
			was, wholeWas := roomy(valsOf(first), refVal(77))
			now, wholeNow := roomy(valsOf(second), refVal(78))
			wereWas, wereNow := slices.Clone(wholeWas), slices.Clone(wholeNow)
			got, again := impl.DiffOf(was, now), impl.DiffOf(was, now)
			want := slices.Clone(got)
			spoilAll(again, ref(55, 55))
			if !slices.Equal(got, want) || !slices.Equal(wholeWas, wereWas) || !slices.Equal(wholeNow, wereNow) {
				t.Fatalf("DiffOf of %q and %q", first, second)
			}
			spoilAll(was, refVal(66))
			spoilAll(now, refVal(66))
			if !slices.Equal(got, want) {
				t.Fatalf("DiffOf of %q and %q shares memory with them", first, second)
			}
		}
	}
}

// P33: so do Patch and Apart.
func TestPatchIsNewMemory(t *testing.T) {
	for _, first := range valsForMemory() {
		for _, second := range cellsForMemory() {
			fields, wholeFields := roomy(valsOf(first), refVal(77))
			cells, wholeCells := roomy(cellsOf(second), ref(0, 78))
			wereFields, wereCells := slices.Clone(wholeFields), slices.Clone(wholeCells)
			got, again := impl.Patch(fields, cells), impl.Patch(fields, cells)
			want := slices.Clone(got)
			spoilAll(again, refVal(55))
			if !slices.Equal(got, want) || !slices.Equal(wholeFields, wereFields) || !slices.Equal(wholeCells, wereCells) {
				t.Fatalf("Patch of %q with %q", first, second)
			}
			spoilAll(fields, refVal(66))
			spoilAll(cells, ref(0, 66))
			if !slices.Equal(got, want) {
				t.Fatalf("Patch of %q with %q shares memory with them", first, second)
			}
		}
	}
}

func TestApartWritesNothing(t *testing.T) {
	for _, first := range cellsForMemory() {
		for _, second := range cellsForMemory() {
			a, wholeA := roomy(cellsOf(first), ref(3, 77))
			b, wholeB := roomy(cellsOf(second), ref(3, 78))
			wereA, wereB := slices.Clone(wholeA), slices.Clone(wholeB)
			if impl.Apart(a, b) != apartThere(a, b) || !slices.Equal(wholeA, wereA) || !slices.Equal(wholeB, wereB) {
				t.Fatalf("Apart of %q and %q", first, second)
			}
		}
	}
}

// One list may be handed in as both, or two pieces of one whole.
func TestDifferencesOfOneList(t *testing.T) {
	whole, cells := valsOf("1 @2 1 @2 5"), cellsOf("0=7 1=@8 0=9 3=@1")
	was, were := slices.Clone(whole), slices.Clone(cells)
	for from := range whole {
		for end := from; end <= len(whole); end++ {
			a, b := whole[:end-from], whole[from:end]
			got := impl.DiffOf(a, b)
			if !slices.Equal(got, diffThere(was[:end-from], was[from:end])) || !slices.Equal(impl.Patch(a, got), b) {
				t.Fatalf("%d, %d: %q", from, end, tellCells(got))
			}
			spoilAll(got, ref(55, 55))
			spoilAll(impl.Patch(whole[from:end], cells), refVal(55))
			if !slices.Equal(whole, was) || !slices.Equal(cells, were) {
				t.Fatalf("%d, %d: written", from, end)
			}
		}
	}
	if impl.Apart(cells[:2], cells[2:]) || !impl.Apart(cells[1:3], cells[3:]) {
		t.Error("pieces of one list of cells")
	}
}

// tellDifferences tells all that the chapter's functions answer of fields.
func tellDifferences(fields string) string {
	var parts []string
	for _, other := range valsForMemory() {
		parts = append(parts, tellCells(impl.DiffOf(valsOf(fields), valsOf(other))), tellCells(impl.DiffOf(valsOf(other), valsOf(fields))))
	}
	for _, cells := range cellsForMemory() {
		parts = append(parts, tellVals(impl.Patch(valsOf(fields), cellsOf(cells))), fmt.Sprint(impl.Apart(cellsOf(cells), impl.DiffOf(valsOf(fields), valsOf("9 @9 9")))))
	}
	return strings.Join(parts, "; ")
}

// P33: no call leaves anything behind that a later one shows.
func TestDifferencesAreToldAgain(t *testing.T) {
	wantToldAgain(t, valsForMemory(), tellDifferences)
}
