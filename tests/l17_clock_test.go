package tests

import (
	"fmt"
	"maps"
	"math"
	"slices"
	"strings"
	"testing"

	"loop.example/g00283/impl"
)

// clockOf reads what tellClock tells: "1.2 17.3" has who 1 with N 2, and who 17 with N 3.
func clockOf(told string) []impl.Stamp {
	var list []impl.Stamp
	for _, part := range strings.Fields(told) {
		var s impl.Stamp
		if _, err := fmt.Sscanf(part, "%d.%d", &s.Who, &s.N); err != nil {
			panic(told)
		}
		list = append(list, s)
	}
	return list
}

func tellClock(list []impl.Stamp) string {
	var parts []string
	for _, s := range list {
		parts = append(parts, fmt.Sprintf("%d.%d", s.Who, s.N))
	}
	return strings.Join(parts, " ")
}

// A clockBook is a clock without any order.
type clockBook map[int]int

// bookOf has the first stamp of each who.
func bookOf(list []impl.Stamp) clockBook {
	x := clockBook{}
	for _, s := range slices.Backward(list) {
		x[s.Who] = s.N
	}
	return x
}

func (x clockBook) clock() []impl.Stamp {
	var list []impl.Stamp
	for _, who := range slices.Sorted(maps.Keys(x)) {
		list = append(list, impl.Stamp{Who: who, N: x[who]})
	}
	return list
}

func (x clockBook) knows(y clockBook) bool {
	for who, n := range y {
		if x[who] < n {
			return false
		}
	}
	return true
}

func (x clockBook) joins(y clockBook) {
	for who, n := range y {
		x[who] = max(x[who], n)
	}
}

// clockRight tells by itself what ClockOk has to answer, and so do tickThere, joinThere and knowsThere.
func clockRight(list []impl.Stamp) bool {
	for i, s := range list {
		if s.Who < 1 || s.Who > 1000000 || s.N < 1 || s.N > 16777215 || i > 0 && s.Who <= list[i-1].Who {
			return false
		}
	}
	return true
}

func tickThere(list []impl.Stamp, who int) []impl.Stamp {
	x := bookOf(list)
	if !clockRight(list) || who < 1 || who > 1000000 || x[who] == 16777215 {
		return list
	}
	x[who]++
	return x.clock()
}

func joinThere(a, b []impl.Stamp) []impl.Stamp {
	if !clockRight(a) || !clockRight(b) {
		return nil
	}
	x := bookOf(a)
	x.joins(bookOf(b))
	return x.clock()
}

func knowsThere(a, b []impl.Stamp) bool {
	return clockRight(a) && clockRight(b) && bookOf(a).knows(bookOf(b))
}

func wantClockOk(t *testing.T, right bool, list ...string) {
	t.Helper()
	for _, told := range list {
		if clockRight(clockOf(told)) != right {
			t.Errorf("%q is not as this test wants it", told)
		}
		if impl.ClockOk(clockOf(told)) != right {
			t.Errorf("ClockOk of %q is %v", told, !right)
		}
	}
}

func TestClockOkOfRightOnes(t *testing.T) {
	wantClockOk(t, true, "", "1.1", "1.2", "2.1", "1000000.1", "1.16777215", "1000000.16777215", "999999.16777214", "1.1 2.1", "1.1 1000000.1",
		"1.16777215 1000000.16777215", "999999.1 1000000.1", "1.5 2.4 3.3 4.2 5.1", "1.1 2.2 3.3", "7.9 17.9 18.9 500.9 70000.9")
	if !impl.ClockOk([]impl.Stamp{}) || !impl.ClockOk(make([]impl.Stamp, 0, 4)) {
		t.Error("an empty list is no clock")
	}
}

func TestClockOkOfWrongOnes(t *testing.T) {
	wantClockOk(t, false,
		// Stamps that do not ascend.
		"2.1 1.1", "2.1 1.2", "1000000.1 1.1", "1.1 3.1 2.1", "2.1 1.1 3.1", "3.1 1.1 2.1", "1.1 2.1 4.1 3.1", "1.1 2.1 3.1 4.1 1.1",
		// Two of one Who.
		"1.1 1.1", "1.1 1.2", "1.2 1.1", "1000000.1 1000000.1", "1.1 2.1 2.1", "1.1 2.1 2.2 3.1", "1.1 2.1 1.1", "1.1 2.1 3.1 3.1",
		// Who is none.
		"0.1", "-1.1", "1000001.1", "0.1 1.1", "-1.1 1.1", "1.1 1000001.1", "0.1 0.1", "1.1 0.1", "1000001.1 1.1", "9223372036854775807.1", "-9223372036854775808.1",
		"1.1 9223372036854775807.1", "-9223372036854775808.1 1.1", "4294967297.1", "1.1 2.1 4294967299.1", "16777215.1",
		// N is none.
		"1.0", "1.-1", "1.16777216", "1.9223372036854775807", "1.-9223372036854775808", "1.4294967297", "1000000.0", "1000000.16777216",
		"1.0 2.1", "1.1 2.0", "1.1 2.16777216", "1.16777216 2.1", "1.1 2.0 3.1", "1.1 2.-1 3.1", "1.1 2.1 3.0", "1.1 2.1 3.16777216",
		// Both.
		"0.0", "1.0 1.0", "2.0 1.16777216")
	if impl.ClockOk([]impl.Stamp{{}}) {
		t.Error("the zero stamp")
	}
}

// shortClocks are all lists of at most three of the stamps at the edges, right and wrong ones.
func shortClocks() [][]impl.Stamp {
	var stamps []impl.Stamp
	for _, who := range []int{0, 1, 2, impl.MaxId, impl.MaxId + 1} {
		for _, n := range []int{0, 1, impl.MaxNum, impl.MaxNum + 1} {
			stamps = append(stamps, impl.Stamp{Who: who, N: n})
		}
	}
	list := [][]impl.Stamp{nil}
	for at := 0; len(list[at]) < 3; at++ {
		for _, s := range stamps {
			list = append(list, append(slices.Clone(list[at]), s))
		}
	}
	return list
}

func whosToAsk() []int {
	return append(edgeNumbers(), 0, 1, 2, 3, impl.MaxId-1, impl.MaxId, impl.MaxId+1, 1<<32+1)
}

// wantOneClock asks what is asked of one list.
func wantOneClock(t *testing.T, list []impl.Stamp, whos []int) (right bool) {
	t.Helper()
	right = clockRight(list)
	if impl.ClockOk(list) != right {
		t.Fatalf("ClockOk of %s is %v", tellClock(list), !right)
	}
	x := bookOf(list)
	for _, who := range whos {
		if got := impl.Count(list, who); got != x[who] {
			t.Fatalf("Count of %d in %s is %d", who, tellClock(list), got)
		}
		got, want := impl.Tick(list, who), tickThere(list, who)
		if !slices.Equal(got, want) {
			t.Fatalf("Tick of %s by %d is %s in place of %s", tellClock(list), who, tellClock(got), tellClock(want))
		}
		if impl.ClockOk(got) != right {
			t.Fatalf("Tick of %s by %d: ClockOk is %v", tellClock(list), who, !right)
		}
	}
	return right
}

func TestShortClocks(t *testing.T) {
	var counts [2]int
	for _, list := range shortClocks() {
		counts[flagVal(wantOneClock(t, list, whosToAsk())).N]++
	}
	// Of each of three whos that are right there is none, the least N or the greatest one.
	if counts != [2]int{1 + 20 + 400 + 8000 - 27, 27} {
		t.Errorf("%v", counts)
	}
}

// One number of a longer clock is turned.
func TestTurnedClocks(t *testing.T) {
	const told = "1.3 2.1 17.16777214 40.16777215 999999.8 1000000.1"
	var counts [2]int
	for i := range clockOf(told) {
		for _, n := range append(whosToAsk(), 16, 17, 18, 39, 40, 41, 999998, impl.MaxNum-1, impl.MaxNum, impl.MaxNum+1) {
			who, count := clockOf(told), clockOf(told)
			who[i].Who, count[i].N = n, n
			counts[flagVal(wantOneClock(t, who, []int{0, 1, 2, 17, 18, 40, n, impl.MaxId})).N]++
			counts[flagVal(wantOneClock(t, count, []int{0, 1, 2, 17, 18, 40, n, impl.MaxId})).N]++
		}
	}
	for _, list := range turnedLists(clockOf(told)) {
		counts[flagVal(wantOneClock(t, list, []int{1, 17, impl.MaxId})).N]++
	}
	if counts[0] < 150 || counts[1] < 80 {
		t.Errorf("%v", counts)
	}
}

func wantCount(t *testing.T, told string, who, n int) {
	t.Helper()
	if got := impl.Count(clockOf(told), who); got != n {
		t.Errorf("Count of %d in %q is %d in place of %d", who, told, got, n)
	}
}

// A countCase is of a list that holds one number against another one.
type countCase struct {
	told   string
	who, n int
}

func countCases() []countCase {
	const told = "1.5 2.16777215 17.1 1000000.9"
	list := []countCase{
		{told, 1, 5}, {told, 2, 16777215}, {told, 17, 1}, {told, 1000000, 9}, {"", 1, 0},
		// The first of two, whichever is greater, and wherever they stand.
		{"3.5 3.8", 3, 5}, {"3.8 3.5", 3, 8}, {"1.1 3.5 2.7 3.8 3.9", 3, 5}, {"3.0 3.8", 3, 0}, {"3.-4 3.8", 3, -4},
		// In a list that is not right, too.
		{"9.1 4.2 6.3", 4, 2}, {"9.1 4.2 6.3", 6, 3}, {"9.1 4.2 6.3", 5, 0},
		{"0.7 -5.8 1000001.9", 0, 7}, {"0.7 -5.8 1000001.9", -5, 8}, {"0.7 -5.8 1000001.9", 1000001, 9},
		{"1.16777216 2.9223372036854775807", 1, 16777216}, {"1.16777216 2.9223372036854775807", 2, math.MaxInt},
	}
	for _, who := range append(edgeNumbers(), 0, 3, 16, 18, 5, 9, impl.MaxId-1, impl.MaxId+1, 1<<32+1) {
		list = append(list, countCase{told, who, 0}, countCase{"", who, 0})
	}
	return list
}

func TestCount(t *testing.T) {
	for _, x := range countCases() {
		wantCount(t, x.told, x.who, x.n)
	}
}

func wantTick(t *testing.T, was string, who int, told string) {
	t.Helper()
	if got := impl.Tick(clockOf(was), who); tellClock(got) != told {
		t.Errorf("Tick of %q by %d is %q in place of %q", was, who, tellClock(got), told)
	}
}

func TestTick(t *testing.T) {
	// Who is in it: the first one, one between, the last one, the only one.
	const was = "2.5 7.1 40.8"
	wantTick(t, was, 2, "2.6 7.1 40.8")
	wantTick(t, was, 7, "2.5 7.2 40.8")
	wantTick(t, was, 40, "2.5 7.1 40.9")
	wantTick(t, "7.1", 7, "7.2")
	// Who is not in it: ahead of, between and behind all others, next to them and far away.
	wantTick(t, was, 1, "1.1 2.5 7.1 40.8")
	wantTick(t, was, 3, "2.5 3.1 7.1 40.8")
	wantTick(t, was, 6, "2.5 6.1 7.1 40.8")
	wantTick(t, was, 8, "2.5 7.1 8.1 40.8")
	wantTick(t, was, 39, "2.5 7.1 39.1 40.8")
	wantTick(t, was, 41, "2.5 7.1 40.8 41.1")
	wantTick(t, was, impl.MaxId, "2.5 7.1 40.8 1000000.1")
	// An empty clock.
	wantTick(t, "", 1, "1.1")
	wantTick(t, "", 17, "17.1")
	wantTick(t, "", impl.MaxId, "1000000.1")
	// Edges of who.
	wantTick(t, "1.1 1000000.1", 1, "1.2 1000000.1")
	wantTick(t, "1.1 1000000.1", impl.MaxId, "1.1 1000000.2")
	wantTick(t, "1.1 1000000.1", 999999, "1.1 999999.1 1000000.1")
	// Up to MaxNum, which is met and not passed.
	wantTick(t, "3.16777213", 3, "3.16777214")
	wantTick(t, "3.16777214", 3, "3.16777215")
	wantTick(t, "3.16777215", 3, "3.16777215")
	wantTick(t, "1.16777214 3.16777215 1000000.16777214", 1, "1.16777215 3.16777215 1000000.16777214")
	wantTick(t, "1.16777214 3.16777215 1000000.16777214", 3, "1.16777214 3.16777215 1000000.16777214")
	wantTick(t, "1.16777214 3.16777215 1000000.16777214", impl.MaxId, "1.16777214 3.16777215 1000000.16777215")
	wantTick(t, "1.16777215 3.16777215 1000000.16777215", 2, "1.16777215 2.1 3.16777215 1000000.16777215")
}

func TestTickOfNone(t *testing.T) {
	for _, was := range []string{"", "1.1", "2.5 7.1 40.8", "1.16777215 1000000.16777215"} {
		for _, who := range append(edgeNumbers(), 0, impl.MaxId+1, impl.MaxId+2, impl.MaxNum, 1<<32+1) {
			wantTick(t, was, who, was)
		}
	}
	// What is no clock is not mended.
	for _, was := range wrongClocks() {
		for _, who := range append(whosToAsk(), 5, 9, 40) {
			wantTick(t, was, who, was)
		}
	}
}

// wrongClocks are no clocks: one for each reason, ahead of, between and behind others.
func wrongClocks() []string {
	return []string{
		"2.1 1.1", "1.1 3.1 2.1", "2.1 1.1 3.1", "1.1 1.1", "1.1 1.2", "1.2 1.1", "1.1 2.1 2.1 3.1", "1.1 2.5 2.4", "9.3 5.2", "5.1 5.1 9.1",
		"0.1", "0.1 1.1 2.1", "-1.1", "-3.1 1.1", "1000001.1", "1.1 2.1 1000001.1", "9223372036854775807.1", "-9223372036854775808.1 1.1",
		"1.0", "1.1 2.0", "1.0 2.1", "1.-1", "1.16777216", "1.1 2.16777216", "1.16777216 2.1", "1.9223372036854775807", "1.-9223372036854775808", "1.1 2.0 3.1", "0.0",
	}
}

// wantJoined2 asks either way round: whose clock it was, does not count.
func wantJoined2(t *testing.T, a, b, told string) {
	t.Helper()
	for range 2 {
		if got := impl.Join2(clockOf(a), clockOf(b)); tellClock(got) != told {
			t.Errorf("Join2 of %q and %q is %q in place of %q", a, b, tellClock(got), told)
		}
		if got := impl.Join2(clockOf(a), clockOf(b)); !impl.Knows(got, clockOf(a)) || !impl.Knows(got, clockOf(b)) || !impl.ClockOk(got) {
			t.Errorf("Join2 of %q and %q does not know both", a, b)
		}
		a, b = b, a
	}
}

// joinCases are two lists and what is joined of them.
func joinCases() [][3]string {
	return [][3]string{
		// All in common.
		{"1.5 7.1 40.8", "1.5 7.1 40.8", "1.5 7.1 40.8"},
		{"1.5 7.1 40.8", "1.4 7.2 40.8", "1.5 7.2 40.8"},
		{"1.5 7.2 40.9", "1.4 7.1 40.8", "1.5 7.2 40.9"},
		{"7.2", "7.1", "7.2"},
		// One, or some.
		{"1.5 7.1", "7.3 40.8", "1.5 7.3 40.8"},
		{"1.5 7.4", "7.3 40.8", "1.5 7.4 40.8"},
		{"1.5 7.1 40.8", "7.3", "1.5 7.3 40.8"},
		{"1.5 7.1 40.8", "1.6", "1.6 7.1 40.8"},
		{"1.5 7.1 40.8", "40.7", "1.5 7.1 40.8"},
		{"2.1 4.1 6.1 8.1", "1.2 2.2 5.2 6.2 9.2", "1.2 2.2 4.1 5.2 6.2 8.1 9.2"},
		// None: one ahead of the other, in turns, one within the other.
		{"1.5 2.4", "3.3 4.2", "1.5 2.4 3.3 4.2"},
		{"1.5 3.3", "2.4 4.2", "1.5 2.4 3.3 4.2"},
		{"1.5 4.2", "2.4 3.3", "1.5 2.4 3.3 4.2"},
		{"5.1", "6.1", "5.1 6.1"},
		// Either one empty, or both.
		{"", "", ""},
		{"1.5 7.1 40.8", "", "1.5 7.1 40.8"},
		{"9.1", "", "9.1"},
		// Edges of both numbers.
		{"1.1", "1000000.1", "1.1 1000000.1"},
		{"1.1 1000000.16777215", "1.16777215 1000000.1", "1.16777215 1000000.16777215"},
		{"1.16777214 1000000.16777214", "1.16777215 1000000.16777214", "1.16777215 1000000.16777214"},
		{"1.16777215 1000000.16777215", "1.16777215 1000000.16777215", "1.16777215 1000000.16777215"},
	}
}

func TestJoin2(t *testing.T) {
	for _, x := range joinCases() {
		wantJoined2(t, x[0], x[1], x[2])
	}
	// One list for both.
	list := clockOf("1.5 7.1 40.8")
	if got := impl.Join2(list, list); tellClock(got) != "1.5 7.1 40.8" || !impl.Knows(list, list) {
		t.Error("a clock and itself", got)
	}
}

func wantKnows(t *testing.T, a, b string, knows, back bool) {
	t.Helper()
	if impl.Knows(clockOf(a), clockOf(b)) != knows {
		t.Errorf("Knows of %q and %q is %v", a, b, !knows)
	}
	if impl.Knows(clockOf(b), clockOf(a)) != back {
		t.Errorf("Knows of %q and %q is %v", b, a, !back)
	}
}

// A knowsCase tells whether a has all that b has, and back.
type knowsCase struct {
	a, b        string
	knows, back bool
}

func knowsCases() []knowsCase {
	return []knowsCase{
		{"", "", true, true},
		{"1.1", "", true, false},
		{"1000000.16777215", "", true, false},
		// The same, less and more.
		{"1.5 7.1 40.8", "1.5 7.1 40.8", true, true},
		{"1.6 7.1 40.8", "1.5 7.1 40.8", true, false},
		{"1.5 7.2 40.8", "1.5 7.1 40.8", true, false},
		{"1.5 7.1 40.9", "1.5 7.1 40.8", true, false},
		{"1.16777215", "1.16777214", true, false},
		{"1.6 7.1 40.8", "1.5 7.2 40.8", false, false},
		{"1.5 7.9 40.8", "1.5 40.9", false, false},
		// What is not there, is 0, which is not greater than anything.
		{"1.5 7.1 40.8", "7.1 40.8", true, false},
		{"1.5 7.1 40.8", "1.5 40.8", true, false},
		{"1.5 7.1 40.8", "1.5 7.1", true, false},
		{"1.5 7.1 40.8", "7.1", true, false},
		{"1.5 7.1 40.8", "2.1", false, false},
		{"1.5 7.1 40.8", "41.1", false, false},
		{"2.5 7.1 40.8", "1.1 2.5 7.1 40.8", false, true},
		{"1.5", "7.5", false, false},
		{"1.9 2.9 3.9", "2.1 4.1", false, false},
		{"1.1", "1000000.1", false, false},
		{"1.5 7.1 40.8", "7.2", false, false},
	}
}

func TestKnows(t *testing.T) {
	for _, x := range knowsCases() {
		wantKnows(t, x.a, x.b, x.knows, x.back)
	}
}

// What is no clock is neither joined, nor does it know or is it known: not even by itself.
func TestClocksThatAreNone(t *testing.T) {
	wrong := wrongClocks()
	for _, w := range wrong {
		if clockRight(clockOf(w)) {
			t.Errorf("%q is a clock", w)
		}
		for _, other := range append([]string{"", "1.1", "1.16777215", "2.5 7.1 40.8", "1.5 2.5 3.5 5.5 9.5", w}, wrong...) {
			for _, pair := range [][2]string{{w, other}, {other, w}} {
				a, b := clockOf(pair[0]), clockOf(pair[1])
				if got := impl.Join2(a, b); len(got) != 0 {
					t.Errorf("Join2 of %q and %q is %q", pair[0], pair[1], tellClock(got))
				}
				if impl.Knows(a, b) {
					t.Errorf("%q knows %q", pair[0], pair[1])
				}
			}
		}
	}
}

// edgeClocks are all clocks of four whos, of each of whom N is 0 (he is not in it) or one of three.
func edgeClocks() [][]impl.Stamp {
	list := [][]impl.Stamp{nil}
	for _, who := range []int{1, 2, 3, impl.MaxId} {
		for _, ahead := range list {
			for _, n := range []int{1, 2, impl.MaxNum} {
				list = append(list, append(slices.Clone(ahead), impl.Stamp{Who: who, N: n}))
			}
		}
	}
	return list
}

// A joining makes one list of two, and tells whether one has all of another one: of clocks, or of what else has two numbers like stamps.
type joining struct {
	right func(list []impl.Stamp) bool
	join  func(a, b []impl.Stamp) []impl.Stamp
	knows func(a, b []impl.Stamp) bool
}

func ofClocks() joining { return joining{impl.ClockOk, impl.Join2, impl.Knows} }

// wantBoth asks of all pairs of edgeClocks: who joined them knows both, and nothing beside them, also when they are joined again.
func (x joining) wantBoth(t *testing.T) {
	t.Helper()
	list := edgeClocks()
	var counts [2]int
	for _, a := range list {
		for _, b := range list {
			got, want := x.join(a, b), joinThere(a, b)
			if !slices.Equal(got, want) || !x.right(got) {
				t.Fatalf("%q and %q are joined to %q in place of %q", tellClock(a), tellClock(b), tellClock(got), tellClock(want))
			}
			if !x.knows(got, a) || !x.knows(got, b) {
				t.Fatalf("%q, joined of %q and %q, does not know both", tellClock(got), tellClock(a), tellClock(b))
			}
			if !slices.Equal(x.join(got, a), got) || !slices.Equal(x.join(got, b), got) || !slices.Equal(x.join(b, a), got) {
				t.Fatalf("%q, joined of %q and %q, changes when they are joined again", tellClock(got), tellClock(a), tellClock(b))
			}
			knows := x.knows(a, b)
			if knows != knowsThere(a, b) || knows != slices.Equal(got, a) {
				t.Fatalf("%q knows %q: %v", tellClock(a), tellClock(b), knows)
			}
			counts[flagVal(knows).N]++
		}
	}
	// Of each who ten of sixteen pairs have an N that is not below the other one.
	if counts != [2]int{65536 - 10000, 10000} {
		t.Errorf("%v", counts)
	}
}

// wantLeast asks of three: whoever knows two of them knows what is joined of these; and who is joined of all, in whatever order, is one.
func (x joining) wantLeast(t *testing.T) {
	t.Helper()
	var list [][]impl.Stamp
	for _, a := range edgeClocks() {
		if n := bookOf(a); n[3] == 0 && n[impl.MaxId] < impl.MaxNum && n[2] < impl.MaxNum {
			list = append(list, a)
		}
	}
	both := 0
	for _, a := range list {
		for _, b := range list {
			joined := x.join(a, b)
			for _, c := range list {
				knows := x.knows(c, a) && x.knows(c, b)
				if x.knows(c, joined) != knows {
					t.Fatalf("%q, of %q and of %q: %v", tellClock(c), tellClock(a), tellClock(b), !knows)
				}
				both += flagVal(knows).N
				if first, last := x.join(joined, c), x.join(a, x.join(b, c)); !slices.Equal(first, last) {
					t.Fatalf("%q, %q and %q are joined to %q and %q", tellClock(a), tellClock(b), tellClock(c), tellClock(first), tellClock(last))
				}
				if x.knows(a, b) && x.knows(b, c) && !x.knows(a, c) {
					t.Fatalf("%q knows %q, that knows %q", tellClock(a), tellClock(b), tellClock(c))
				}
			}
		}
	}
	if len(list) != 36 || both < 3000 {
		t.Errorf("%d, %d", len(list), both)
	}
}

// P17: who joined two clocks knows both.
func TestWhoJoinedTwoClocksKnowsBoth(t *testing.T) { ofClocks().wantBoth(t) }

func TestJoinedIsTheLeastThatKnowsBoth(t *testing.T) { ofClocks().wantLeast(t) }

// Who ticks gets ahead of what he was, and of all who knew no more than that.
func TestTickGetsAhead(t *testing.T) {
	stays := 0
	for _, a := range edgeClocks() {
		for _, who := range []int{1, 2, 3, 4, impl.MaxId - 1, impl.MaxId} {
			got := impl.Tick(a, who)
			most := impl.Count(a, who) == impl.MaxNum
			if !impl.Knows(got, a) || impl.Knows(a, got) != most {
				t.Fatalf("Tick of %q by %d is %q", tellClock(a), who, tellClock(got))
			}
			if n := impl.Count(got, who); !most && n != impl.Count(a, who)+1 {
				t.Fatalf("Tick of %q by %d: %d", tellClock(a), who, n)
			}
			if !slices.Equal(impl.Join2(a, got), got) || !slices.Equal(impl.Join2(got, a), got) {
				t.Fatalf("%q is not joined with what it was, %q", tellClock(got), tellClock(a))
			}
			stays += flagVal(most).N
		}
	}
	if stays != 4*64 {
		t.Errorf("%d", stays)
	}
	// What two tick apart, neither knows of the other.
	a := clockOf("1.5 7.1")
	wantKnows(t, tellClock(impl.Tick(a, 1)), tellClock(impl.Tick(a, 7)), false, false)
	wantKnows(t, tellClock(impl.Tick(a, 4)), tellClock(impl.Tick(a, 9)), false, false)
	wantKnows(t, tellClock(impl.Tick(impl.Tick(a, 4), 9)), tellClock(impl.Tick(impl.Tick(a, 9), 4)), true, true)
}

// A clockRun is of several whose clocks go on, beside a book of each.
type clockRun struct {
	dice
	clocks [6][]impl.Stamp
	books  [6]clockBook
	whos   []int
}

func (x *clockRun) step(t *testing.T) {
	t.Helper()
	at, other := x.below(6), x.below(6)
	was := x.clocks[at]
	if x.below(3) == 0 {
		x.clocks[at] = impl.Join2(was, x.clocks[other])
		x.books[at].joins(x.books[other])
	} else {
		who := x.whos[x.below(len(x.whos))]
		x.clocks[at] = impl.Tick(was, who)
		if x.books[at][who] < impl.MaxNum {
			x.books[at][who]++
		}
	}
	if now := x.clocks[at]; !slices.Equal(now, x.books[at].clock()) || !impl.ClockOk(now) || !impl.Knows(now, was) {
		t.Fatalf("%q is %q in place of %q", tellClock(was), tellClock(now), tellClock(x.books[at].clock()))
	}
}

// P17, too: whatever several tick and join, in whatever order, is as books without any order have it; none forgets what it knew.
func TestClocksAreAsBooksOfThem(t *testing.T) {
	var counts [2]int
	for seed := range 40 {
		x := clockRun{dice: dice(1700 + seed), whos: []int{1, 2, 3, 17, 18, 500, 70000, impl.MaxId - 1, impl.MaxId}}
		for i := range x.clocks {
			x.books[i] = clockBook{}
			if seed%4 == 0 {
				x.clocks[i], x.books[i] = clockOf("17.16777205 500.16777214"), clockBook{17: 16777205, 500: 16777214}
			}
		}
		for range 150 {
			x.step(t)
		}
		for i, a := range x.clocks {
			for k, b := range x.clocks {
				knows := x.books[i].knows(x.books[k])
				if impl.Knows(a, b) != knows {
					t.Fatalf("Knows of %q and %q is %v", tellClock(a), tellClock(b), !knows)
				}
				counts[flagVal(knows).N]++
			}
		}
	}
	if counts[0] < 400 || counts[1] < 240 {
		t.Errorf("%v", counts)
	}
}

// manyStamps are a clock of every other who, from first on.
func manyStamps(first, n int) []impl.Stamp {
	list := make([]impl.Stamp, n)
	for i := range n {
		list[i] = impl.Stamp{Who: first + 2*i, N: 1 + i%7}
	}
	return list
}

// P33: what is far too much is answered, too; no chapter says how many stamps a clock may have.
func TestClocksThatAreFarTooGreat(t *testing.T) {
	const many = 1 << 18
	odd, even := manyStamps(1, many), manyStamps(2, many)
	all := impl.Join2(odd, even)
	if len(all) != 2*many || !impl.ClockOk(all) || all[many] != odd[many/2] || all[2*many-1] != even[many-1] {
		t.Error("Join2")
	}
	if !impl.Knows(all, odd) || !impl.Knows(all, even) || impl.Knows(odd, even) || impl.Knows(even, all) || !slices.Equal(impl.Join2(all, odd), all) {
		t.Error("Knows")
	}
	if got := impl.Tick(odd, 2*many); len(got) != many+1 || got[many] != (impl.Stamp{Who: 2 * many, N: 1}) || impl.Count(got, 2*many) != 1 {
		t.Error("Tick behind all")
	}
	if got := impl.Tick(even, 1); len(got) != many+1 || got[0] != (impl.Stamp{Who: 1, N: 1}) || !slices.Equal(got[1:], even) {
		t.Error("Tick ahead of all")
	}
	wrong := slices.Clone(odd)
	wrong[many-1].Who = wrong[many-2].Who
	if impl.ClockOk(wrong) || len(impl.Join2(wrong, even)) != 0 || impl.Knows(even, wrong) || !slices.Equal(impl.Tick(wrong, 2), wrong) {
		t.Error("two of one Who behind many")
	}
	if impl.ClockOk(make([]impl.Stamp, many)) || impl.Count(make([]impl.Stamp, many), 5) != 0 {
		t.Error("many that are nothing")
	}
}

// A listAsk makes a list of two.
type listAsk[T comparable] struct {
	what string
	ask  func(a, b []T) []T
}

// wantUnwritten asks it of lists with spare room behind them, and then spoils what it has told and what it was given.
func (x listAsk[T]) wantUnwritten(t *testing.T, first, second []T, spare, spoil T) {
	t.Helper()
	a, wholeA := roomy(first, spare)
	b, wholeB := roomy(second, spare)
	wereA, wereB := slices.Clone(wholeA), slices.Clone(wholeB)
	got, again := x.ask(a, b), x.ask(a, b)
	want := slices.Clone(got)
	if !slices.Equal(wholeA, wereA) || !slices.Equal(wholeB, wereB) {
		t.Fatalf("%s of %v and %v writes into them", x.what, first, second)
	}
	spoilAll(again, spoil)
	if !slices.Equal(got, want) || !slices.Equal(wholeA, wereA) || !slices.Equal(wholeB, wereB) {
		t.Fatalf("%s of %v and %v is not new memory", x.what, first, second)
	}
	spoilAll(a, spoil)
	spoilAll(b, spoil)
	if !slices.Equal(got, want) {
		t.Fatalf("%s of %v and %v shares memory with them", x.what, first, second)
	}
}

// wantOfPieces asks it of two pieces of one whole, which both may be all of it: it answers as of two lists that share nothing.
func (x listAsk[T]) wantOfPieces(t *testing.T, whole []T, spoil T) {
	t.Helper()
	was := slices.Clone(whole)
	for from := range whole {
		for end := from; end <= len(whole); end++ {
			got, want := x.ask(whole[:end], whole[from:]), x.ask(slices.Clone(was[:end]), slices.Clone(was[from:]))
			if !slices.Equal(got, want) {
				t.Fatalf("%s of what is ahead of %d and from %d on of %v: %v in place of %v", x.what, end, from, was, got, want)
			}
			spoilAll(got, spoil)
			if !slices.Equal(whole, was) {
				t.Fatalf("%s of what is ahead of %d and from %d on of %v: it is %v now", x.what, end, from, was, whole)
			}
		}
	}
}

func clockAsks() []listAsk[impl.Stamp] {
	back := func(a, b []impl.Stamp) []impl.Stamp { return impl.Join2(b, a) }
	others := func(a, b []impl.Stamp) []impl.Stamp {
		return []impl.Stamp{{Who: impl.Count(a, 1) + impl.Count(b, 8)}, {Who: flagVal(impl.ClockOk(a)).N}, {Who: flagVal(impl.Knows(a, b)).N}}
	}
	list := []listAsk[impl.Stamp]{{"Join2", impl.Join2}, {"Join2, the other way round", back}, {"Count, ClockOk and Knows", others}}
	for _, who := range []int{-1, 0, 1, 2, 3, 40, impl.MaxId, impl.MaxId + 1} {
		list = append(list, listAsk[impl.Stamp]{fmt.Sprint("Tick by ", who), func(a, _ []impl.Stamp) []impl.Stamp { return impl.Tick(a, who) }})
	}
	return list
}

// clocksForMemory: right and wrong ones.
func clocksForMemory() []string {
	return append([]string{"", "1.1", "1.5 2.7", "2.5 7.1 40.8", "2.16777215 40.16777215", "1.1 1000000.16777215", "3.9 4.9 5.9"}, wrongClocks()...)
}

// P33: neither a list nor the spare room behind it is written, and an answer shares memory with none.
func TestClocksWriteNothing(t *testing.T) {
	for _, x := range clockAsks() {
		for _, a := range clocksForMemory() {
			for _, b := range clocksForMemory() {
				x.wantUnwritten(t, clockOf(a), clockOf(b), impl.Stamp{Who: 8, N: 77}, impl.Stamp{Who: 55, N: 55})
			}
		}
	}
}

func TestClocksOfOneList(t *testing.T) {
	for _, x := range clockAsks() {
		x.wantOfPieces(t, clockOf("1.5 2.7 3.9 4.1 5.2"), impl.Stamp{Who: 55, N: 55})
	}
}

// tellClocks tells all that the chapter's functions answer of a clock.
func tellClocks(told string) string {
	a := clockOf(told)
	parts := []string{fmt.Sprint(impl.ClockOk(a))}
	for _, who := range []int{0, 1, 2, 8, 40, impl.MaxId, impl.MaxId + 1} {
		parts = append(parts, fmt.Sprint(impl.Count(a, who)), tellClock(impl.Tick(a, who)))
	}
	for _, other := range []string{"", "1.1", "1.5 2.7", "2.5 7.1 40.8", "2.1 1.1", "1.16777215 1000000.16777215"} {
		b := clockOf(other)
		parts = append(parts, tellClock(impl.Join2(a, b)), tellClock(impl.Join2(b, a)), fmt.Sprint(impl.Knows(a, b), impl.Knows(b, a)))
	}
	return strings.Join(parts, "; ")
}

// P33: no call leaves anything behind that a later one shows.
func TestClocksAreToldAgain(t *testing.T) {
	wantToldAgain(t, clocksForMemory(), tellClocks)
}
