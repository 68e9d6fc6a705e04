package tests

import (
	"fmt"
	"math"
	"slices"
	"strings"
	"testing"

	"loop.example/g00283/impl"
)

// eventsRight tells by itself what EventsOk answers.
func eventsRight(list []impl.Event) bool {
	return len(list) <= 3000 && !slices.ContainsFunc(list, func(e impl.Event) bool { return !eventRight(e) })
}

// lastThere is the last event ahead of a place that is as it is asked for; -1 where there is none.
func lastThere(list []impl.Event, at int, is func(e impl.Event) bool) int {
	for i := at - 1; i >= 0; i-- {
		if is(list[i]) {
			return i
		}
	}
	return -1
}

// learnsFrom are the events that are next ahead of the one at a place, in whatever order of time.
func learnsFrom(list []impl.Event, at int) []int {
	e := list[at]
	of := func(who int) int { return lastThere(list, at, func(x impl.Event) bool { return x.Who == who }) }
	kind := func(kind, id int) int {
		return lastThere(list, at, func(x impl.Event) bool { return x.Kind == kind && x.Id == id })
	}
	from := []int{of(e.Who)}
	if from[0] < 0 {
		from[0] = kind(5, e.Who)
	}
	switch e.Kind {
	case 3:
		from = append(from, kind(4, e.Id))
	case 6:
		from = append(from, of(e.Id))
	}
	return slices.DeleteFunc(from, func(i int) bool { return i < 0 })
}

// A pastBook has for each event which ones are ahead of it, and itself, whatever was when: no clock is asked.
type pastBook [][]bool

func pastsOf(list []impl.Event) pastBook {
	if !eventsRight(list) {
		return nil
	}
	var book pastBook
	for at := range list {
		past := make([]bool, len(list))
		past[at] = true
		for _, from := range learnsFrom(list, at) {
			for i, is := range book[from] {
				past[i] = past[i] || is
			}
		}
		book = append(book, past)
	}
	return book
}

func (x pastBook) before(i, j int) bool {
	return i >= 0 && j < len(x) && i < j && x[j][i]
}

// clock counts what is ahead of an event.
func (x pastBook) clock(list []impl.Event, at int) []impl.Stamp {
	counts := clockBook{}
	for i, is := range x[at] {
		if is {
			counts[list[i].Who]++
		}
	}
	return counts.clock()
}

func clashThere(a, b impl.Event) bool {
	kinds := [2]int{min(a.Kind, b.Kind), max(a.Kind, b.Kind)}
	return a.Who != b.Who && a.Id == b.Id && a.At == b.At && (kinds == [2]int{1, 2} || kinds == [2]int{2, 2})
}

func (x pastBook) raceAt(list []impl.Event) int {
	for j := range x {
		for i := range j {
			if clashThere(list[i], list[j]) && !x.before(i, j) {
				return j
			}
		}
	}
	return -1
}

func tellTimes(clocks [][]impl.Stamp) string {
	var told []string
	for _, c := range clocks {
		told = append(told, tellClock(c))
	}
	return strings.Join(told, " | ")
}

// wantTimes asks for all that the chapter tells of a list; it tells where it races.
func wantTimes(t *testing.T, list []impl.Event) int {
	t.Helper()
	book := pastsOf(list)
	got := impl.Clocks(list)
	if len(got) != len(book) {
		t.Fatalf("%s: %d clocks", tellEvents(list), len(got))
	}
	for at := range book {
		if want := book.clock(list, at); !slices.Equal(got[at], want) || !impl.ClockOk(got[at]) {
			t.Fatalf("%s: %q in place of %q at %d", tellEvents(list), tellClock(got[at]), tellClock(want), at)
		}
	}
	for i := -1; i <= len(list); i++ {
		for j := -1; j <= len(list); j++ {
			if is := impl.Before(list, i, j); is != book.before(i, j) {
				t.Fatalf("%s: Before of %d and %d is %v", tellEvents(list), i, j, is)
			}
		}
	}
	return wantRace(t, list, book)
}

func wantRace(t *testing.T, list []impl.Event, book pastBook) int {
	t.Helper()
	at := impl.RaceAt(list)
	if want := book.raceAt(list); at != want {
		t.Fatalf("%s: RaceAt is %d in place of %d", tellEvents(list), at, want)
	}
	return at
}

// A timeCase is a list, and the clocks behind its events.
type timeCase struct{ list, clocks string }

func wantTimeCases(t *testing.T, cases []timeCase) {
	t.Helper()
	for _, x := range cases {
		list := eventsOf(x.list)
		if got := tellTimes(impl.Clocks(list)); got != x.clocks {
			t.Errorf("%s: %s in place of %s", x.list, got, x.clocks)
		}
		wantTimes(t, list)
	}
}

func TestClocksOfOneThread(t *testing.T) {
	wantTimeCases(t, []timeCase{
		{"", ""},
		{"1", "1.1"},
		{"1000000", "1000000.1"},
		{"1; 1; 1", "1.1 | 1.2 | 1.3"},
		{"7 read 5.0; 7 write 5.0; 7 enter 5; 7 exit 5; 7 start 5; 7 join 5; 7", "7.1 | 7.2 | 7.3 | 7.4 | 7.5 | 7.6 | 7.7"},
		// It learns nothing from itself that it does not know.
		{"1 exit 9; 1; 1 enter 9; 1 enter 9; 1 exit 9; 1 exit 9; 1 enter 9", "1.1 | 1.2 | 1.3 | 1.4 | 1.5 | 1.6 | 1.7"},
		{"1 join 1; 1; 1 join 1; 1 start 1; 1", "1.1 | 1.2 | 1.3 | 1.4 | 1.5"},
	})
}

func TestClocksOfTwoThreads(t *testing.T) {
	wantTimeCases(t, []timeCase{
		// Nothing orders them.
		{"1; 2", "1.1 | 2.1"},
		{"2; 1; 2; 1", "2.1 | 1.1 | 2.2 | 1.2"},
		{"1 read 5.0; 2 write 5.0; 1 write 5.0; 2 read 5.0", "1.1 | 2.1 | 1.2 | 2.2"},
		{"1 write 5.1; 2 enter 5; 1 exit 5; 2", "1.1 | 2.1 | 1.2 | 2.2"},
		// One starts the other one.
		{"1; 1 start 2; 1; 2; 1; 2", "1.1 | 1.2 | 1.3 | 1.2 2.1 | 1.4 | 1.2 2.2"},
		{"9 start 3; 3; 9", "9.1 | 3.1 9.1 | 9.2"},
		// One joins the other one.
		{"2; 2; 1; 1 join 2; 2; 1", "2.1 | 2.2 | 1.1 | 1.2 2.2 | 2.3 | 1.3 2.2"},
		{"1; 2 join 1; 1 join 2; 2", "1.1 | 1.1 2.1 | 1.2 2.1 | 1.1 2.2"},
		{"1 start 2; 2; 1; 1 join 2; 1", "1.1 | 1.1 2.1 | 1.2 | 1.3 2.1 | 1.4 2.1"},
		// One lets a monitor go, and the other one takes it.
		{"1 enter 9; 1; 1 exit 9; 1; 2; 2 enter 9; 2", "1.1 | 1.2 | 1.3 | 1.4 | 2.1 | 1.3 2.2 | 1.3 2.3"},
		{"1 enter 9; 1 exit 9; 2 enter 9; 2 exit 9; 1; 1 enter 9", "1.1 | 1.2 | 1.2 2.1 | 1.2 2.2 | 1.3 | 1.4 2.2"},
		// Of two monitors.
		{"1 exit 8; 1 exit 9; 2 enter 8; 2 enter 9", "1.1 | 1.2 | 1.1 2.1 | 1.2 2.2"},
		{"1 exit 8; 1 exit 9; 2 enter 9; 2 enter 8", "1.1 | 1.2 | 1.2 2.1 | 1.2 2.2"},
		{"1 exit 8; 2 enter 9; 2 exit 9; 1 enter 9", "1.1 | 2.1 | 2.2 | 1.2 2.2"},
	})
}

func TestClocksOfSeveralThreads(t *testing.T) {
	wantTimeCases(t, []timeCase{
		// Who learns of one learns of all that this one knows.
		{"1 start 2; 2 start 3; 3 start 4; 4", "1.1 | 1.1 2.1 | 1.1 2.1 3.1 | 1.1 2.1 3.1 4.1"},
		{"5; 4 join 5; 3 join 4; 1 join 3", "5.1 | 4.1 5.1 | 3.1 4.1 5.1 | 1.1 3.1 4.1 5.1"},
		{"1 exit 9; 2 enter 9; 2 start 3; 3 exit 8; 4 enter 8; 5 join 4", "1.1 | 1.1 2.1 | 1.1 2.2 | 1.1 2.2 3.1 | 1.1 2.2 3.1 4.1 | 1.1 2.2 3.1 4.1 5.1"},
		{"1 start 2; 1 start 3; 2; 3; 2; 1 join 2; 1 join 3", "1.1 | 1.2 | 1.1 2.1 | 1.2 3.1 | 1.1 2.2 | 1.3 2.2 | 1.4 2.2 3.1"},
		// What is joined is the greater one of each.
		{"1; 1; 2 join 1; 3 join 2; 1; 3; 4 join 1; 4 join 3", "1.1 | 1.2 | 1.2 2.1 | 1.2 2.1 3.1 | 1.3 | 1.2 2.1 3.2 | 1.3 4.1 | 1.3 2.1 3.2 4.2"},
		{"1 exit 9; 2 exit 8; 3 enter 9; 3 enter 8; 3 exit 9; 1 enter 9", "1.1 | 2.1 | 1.1 3.1 | 1.1 2.1 3.2 | 1.1 2.1 3.3 | 1.2 2.1 3.3"},
	})
}

func TestClocksOfTheFirstEventOfAThread(t *testing.T) {
	wantTimeCases(t, []timeCase{
		// With an EvStart of it ahead, and without one.
		{"1 start 2; 2", "1.1 | 1.1 2.1"},
		{"1; 2", "1.1 | 2.1"},
		{"2; 1 start 2", "2.1 | 1.1"},
		{"1 start 3; 2", "1.1 | 2.1"},
		// Whoever starts it goes on: what is learnt is what was known at the EvStart.
		{"1; 1 start 2; 1; 1 exit 9; 1; 2; 2", "1.1 | 1.2 | 1.3 | 1.4 | 1.5 | 1.2 2.1 | 1.2 2.2"},
		{"1 start 2; 3; 1 join 3; 2", "1.1 | 3.1 | 1.2 3.1 | 1.1 2.1"},
		// With two of them: the last one.
		{"1 start 2; 3 start 2; 2; 2", "1.1 | 3.1 | 2.1 3.1 | 2.2 3.1"},
		{"3 start 2; 1 start 2; 3; 2", "3.1 | 1.1 | 3.2 | 1.1 2.1"},
		{"1 start 2; 1; 1 start 2; 2", "1.1 | 1.2 | 1.3 | 1.3 2.1"},
		{"1 start 2; 1 start 3; 2; 3", "1.1 | 1.2 | 1.1 2.1 | 1.2 3.1"},
		// Of a thread that has begun already: it learns nothing by it.
		{"2; 1 start 2; 2", "2.1 | 1.1 | 2.2"},
		{"1 start 2; 2; 1 start 2; 2; 3 start 2; 2", "1.1 | 1.1 2.1 | 1.2 | 1.1 2.2 | 3.1 | 1.1 2.3"},
		{"2 start 2; 2; 2", "2.1 | 2.2 | 2.3"},
		{"1 start 2; 2 start 2; 2", "1.1 | 1.1 2.1 | 1.1 2.2"},
		{"1 start 1; 2 start 1; 1", "1.1 | 2.1 | 1.2"},
		// The first event is an access, an EvEnter, an EvJoin, an EvExit, an EvStart.
		{"1 start 2; 2 write 1.0; 1", "1.1 | 1.1 2.1 | 1.2"},
		{"3 exit 9; 2 enter 9", "3.1 | 2.1 3.1"},
		{"1 exit 9; 1 start 2; 1 exit 9; 2 enter 9", "1.1 | 1.2 | 1.3 | 1.3 2.1"},
		{"1 start 2; 3; 3 exit 9; 1; 2 enter 9; 2", "1.1 | 3.1 | 3.2 | 1.2 | 1.1 2.1 3.2 | 1.1 2.2 3.2"},
		{"1 start 2; 2 enter 9", "1.1 | 1.1 2.1"},
		{"3; 2 join 3", "3.1 | 2.1 3.1"},
		{"3; 1 start 2; 3; 2 join 3; 2", "3.1 | 1.1 | 3.2 | 1.1 2.1 3.2 | 1.1 2.2 3.2"},
		{"1 start 2; 2 join 1", "1.1 | 1.1 2.1"},
		{"1 start 2; 1; 2 join 1", "1.1 | 1.2 | 1.2 2.1"},
		{"1 start 2; 2 join 2", "1.1 | 1.1 2.1"},
		{"1 start 2; 2 exit 9; 3 enter 9", "1.1 | 1.1 2.1 | 1.1 2.1 3.1"},
		{"1 start 2; 2 start 3; 3", "1.1 | 1.1 2.1 | 1.1 2.1 3.1"},
		// What was let go, or taken, of that number is no EvStart of it.
		{"1 exit 2; 2", "1.1 | 2.1"}, {"1 enter 2; 2", "1.1 | 2.1"}, {"1 join 2; 2", "1.1 | 2.1"}, {"1 write 2.0; 2", "1.1 | 2.1"},
	})
}

func TestClocksOfAnEnter(t *testing.T) {
	wantTimeCases(t, []timeCase{
		// Nobody has let it go yet.
		{"1; 2 enter 9", "1.1 | 2.1"}, {"1 enter 9; 2 enter 9", "1.1 | 2.1"}, {"2 enter 9; 1 exit 9; 2", "2.1 | 1.1 | 2.2"},
		{"1 exit 8; 2 enter 9", "1.1 | 2.1"}, {"1 exit 9; 2 enter 1", "1.1 | 2.1"}, {"1 exit 1; 2 enter 9", "1.1 | 2.1"},
		// Other events of that number are no EvExit of it.
		{"1 start 9; 2 enter 9", "1.1 | 2.1"}, {"9; 2 enter 9", "9.1 | 2.1"}, {"1 join 9; 2 enter 9", "1.1 | 2.1"}, {"1 read 9.0; 2 enter 9", "1.1 | 2.1"},
		// Several have let it go: the last one counts, who does not know of the others.
		{"1 exit 9; 2 exit 9; 3 enter 9", "1.1 | 2.1 | 2.1 3.1"},
		{"2 exit 9; 1 exit 9; 3 enter 9; 4 enter 9", "2.1 | 1.1 | 1.1 3.1 | 1.1 4.1"},
		{"1 exit 9; 1 exit 9; 1; 2 enter 9", "1.1 | 1.2 | 1.3 | 1.2 2.1"},
		{"1 exit 9; 2 exit 9; 2 exit 8; 1 exit 8; 3 enter 9; 3 enter 8", "1.1 | 2.1 | 2.2 | 1.2 | 2.1 3.1 | 1.2 2.1 3.2"},
		{"1 exit 9; 2 exit 9; 2 enter 9; 1 enter 9", "1.1 | 2.1 | 2.2 | 1.2 2.1"},
		// It takes nothing away: who comes next learns it, too.
		{"1 exit 9; 2 enter 9; 3 enter 9; 2 enter 9", "1.1 | 1.1 2.1 | 1.1 3.1 | 1.1 2.2"},
		// An EvExit learns nothing itself.
		{"1 exit 9; 2 exit 9; 2 exit 9", "1.1 | 2.1 | 2.2"},
	})
	// Of no object, too; a place is not asked for.
	list := []impl.Event{{Who: 1, Kind: impl.EvExit, At: 3}, {Who: 2, Kind: impl.EvEnter, At: 7}, {Who: 2, Kind: impl.EvExit, Id: 9, At: 1}, {Who: 3, Kind: impl.EvEnter, Id: 9}}
	if got := tellTimes(impl.Clocks(list)); got != "1.1 | 1.1 2.1 | 1.1 2.2 | 1.1 2.2 3.1" {
		t.Error(got)
	}
	wantTimes(t, list)
}

func TestClocksOfAJoin(t *testing.T) {
	wantTimeCases(t, []timeCase{
		// That thread has no event ahead.
		{"1 join 2", "1.1"}, {"1 join 2; 2; 1", "1.1 | 2.1 | 1.2"}, {"1 start 2; 3 join 2", "1.1 | 3.1"}, {"1 exit 2; 3 join 2", "1.1 | 3.1"},
		{"2; 3 join 1", "2.1 | 3.1"}, {"1; 2; 3 join 4", "1.1 | 2.1 | 3.1"},
		// Its last event counts, of whatever kind; it may go on behind that, and be joined again.
		{"2; 2 exit 9; 2 enter 8; 1 join 2", "2.1 | 2.2 | 2.3 | 1.1 2.3"},
		{"2; 1 join 2; 2; 3 join 2; 1; 1 join 2", "2.1 | 1.1 2.1 | 2.2 | 2.2 3.1 | 1.2 2.1 | 1.3 2.2"},
		{"2; 1 join 2; 3 join 2", "2.1 | 1.1 2.1 | 2.1 3.1"},
		{"2 join 1; 1 join 2", "2.1 | 1.1 2.1"},
	})
	// Of no thread.
	list := []impl.Event{{Who: 1, Kind: impl.EvJoin}, {Who: 2, Kind: impl.EvJoin, Id: 1, At: 5}, {Who: 3, Kind: impl.EvStart}, {Who: 3, Kind: impl.EvJoin}}
	if got := tellTimes(impl.Clocks(list)); got != "1.1 | 1.1 2.1 | 3.1 | 3.2" {
		t.Error(got)
	}
	wantTimes(t, list)
}

// What is EvElse is counted, and no more, whatever stands in it.
func TestClocksOfWhatNobodySees(t *testing.T) {
	list := []impl.Event{{Who: 1, Kind: impl.EvElse, Id: 9, At: 3}, {Who: 2, Kind: impl.EvElse, Id: 1}, {Who: 2, Kind: impl.EvElse, Id: 9, At: 3}, {Who: 3, Kind: impl.EvEnter, Id: 9}, {Who: 9}, {Who: 3, Kind: impl.EvElse, Id: 9}, {Who: 3, Kind: impl.EvJoin, Id: 9}}
	if got := tellTimes(impl.Clocks(list)); got != "1.1 | 2.1 | 2.2 | 3.1 | 9.1 | 3.2 | 3.3 9.1" {
		t.Error(got)
	}
	if at := wantTimes(t, list); at != -1 {
		t.Errorf("it races at %d", at)
	}
}

func TestBefore(t *testing.T) {
	list := eventsOf("1 write 5.0; 1 start 2; 2 exit 9; 3 enter 9; 1; 2 write 5.0; 3 join 1; 2")
	ahead := []string{"", "0", "01", "012", "01", "012", "01234", "0125"}
	for j, all := range ahead {
		for i := range list {
			if want := strings.Contains(all, fmt.Sprint(i)); impl.Before(list, i, j) != want {
				t.Errorf("Before of %d and %d is %v", i, j, !want)
			}
		}
	}
	// What is not there, and what is not ahead.
	for _, i := range append(edgeNumbers(), 0, 1, 7, 8, 9, 1<<32+1) {
		for _, j := range append(edgeNumbers(), 0, 1, 7, 8, 9, 1<<32+7) {
			want := j == 1 && i == 0 || j == 7 && (i == 0 || i == 1)
			if impl.Before(list, i, j) != want {
				t.Errorf("Before of %d and %d is %v", i, j, !want)
			}
		}
	}
	if impl.Before(nil, 0, 0) || impl.Before(nil, 0, 1) || impl.Before(nil, -1, 0) || impl.Before(eventsOf("1"), 0, 0) || impl.Before(eventsOf("1"), 0, 1) || !impl.Before(eventsOf("1; 1"), 0, 1) || impl.Before(eventsOf("1; 1"), 1, 0) || impl.Before(eventsOf("1; 2"), 0, 1) {
		t.Error("short lists")
	}
}

func TestClash(t *testing.T) {
	for _, x := range []struct {
		a, b string
		is   bool
	}{
		{"1 read 5.0", "2 read 5.0", false}, {"1 read 5.0", "2 write 5.0", true}, {"1 write 5.0", "2 read 5.0", true}, {"1 write 5.0", "2 write 5.0", true},
		{"1 read 5.0", "1 write 5.0", false}, {"1 write 5.0", "1 read 5.0", false}, {"1 write 5.0", "1 write 5.0", false}, {"1 read 5.0", "1 read 5.0", false},
		{"1 write 5.0", "2 write 6.0", false}, {"1 write 5.0", "2 read 6.0", false}, {"1 write 5.0", "2 write 5.1", false}, {"1 read 5.0", "2 write 5.1", false}, {"1 write 5.6", "2 write 6.5", false},
		{"1 write 5.7", "1000000 write 5.7", true}, {"1 write 1000000.7", "2 read 1000000.7", true}, {"1 write 2.0", "2 write 1.0", false},
		{"1 write 5.0", "2 enter 5", false}, {"1 exit 5", "2 write 5.0", false}, {"1 enter 5", "2 exit 5", false}, {"1 start 2", "2 write 2.0", false}, {"1 join 5", "2 write 5.0", false}, {"1", "2", false},
	} {
		if impl.Clash(eventOf(x.a), eventOf(x.b)) != x.is || impl.Clash(eventOf(x.b), eventOf(x.a)) != x.is {
			t.Errorf("Clash of %s and %s is not %v", x.a, x.b, x.is)
		}
	}
}

// someEvents have all kinds, and such as are none.
func someEvents() []impl.Event {
	var list []impl.Event
	for _, who := range []int{math.MinInt, 0, 1, 2, 1000001} {
		for kind := -1; kind <= 8; kind++ {
			for _, id := range []int{-1, 0, 1, 2, 1 << 32} {
				for _, at := range []int{-1, 0, 1, 8} {
					list = append(list, impl.Event{Who: who, Kind: kind, Id: id, At: at})
				}
			}
		}
	}
	return list
}

// Clash asks for no more than what it says, whatever stands there.
func TestClashOfManyPairs(t *testing.T) {
	list := someEvents()
	clashes := 0
	for _, a := range list {
		for _, b := range list {
			is := clashThere(a, b)
			clashes += flagVal(is).N
			if impl.Clash(a, b) != is {
				t.Fatalf("Clash of %+v and %+v is %v", a, b, !is)
			}
		}
	}
	if clashes != 20*20*3 {
		t.Error(clashes)
	}
}

// A raceCase is a list, and at which of its events it races.
type raceCase struct {
	at   int
	list string
}

func wantRaces(t *testing.T, cases []raceCase) {
	t.Helper()
	for _, x := range cases {
		list := eventsOf(x.list)
		if at := wantTimes(t, list); at != x.at {
			t.Errorf("%s races at %d, this test wants %d", x.list, at, x.at)
		}
	}
}

func TestWhatRaces(t *testing.T) {
	wantRaces(t, []raceCase{
		{1, "1 write 4.0; 2 write 4.0"}, {1, "1 read 4.0; 2 write 4.0"}, {1, "1 write 4.0; 2 read 4.0"}, {1, "2 write 4.7; 1 read 4.7"}, {1, "1 write 1000000.0; 1000000 write 1000000.0"},
		// It is the later one of both that is told, and the first such one.
		{3, "1 write 4.0; 2; 1; 2 read 4.0; 1 write 4.0; 2 write 4.0"},
		{2, "1 write 4.0; 1 write 5.0; 2 write 5.0; 2 write 4.0"},
		{2, "1 write 4.0; 1 write 5.0; 2 write 4.0; 2 write 5.0"},
		{2, "1 read 4.0; 2 read 4.0; 2 write 4.0; 1 write 4.0"},
		{4, "1 read 4.0; 2 read 4.0; 3 read 4.0; 1 read 4.0; 3 write 4.0"},
		// It is ordered too late, or the other way round.
		{1, "1 write 4.0; 2 write 4.0; 2 join 1; 2 write 4.0"}, {2, "1 start 2; 1 write 4.0; 2 write 4.0"}, {2, "1 exit 9; 1 write 4.0; 2 read 4.0"}, {3, "1 exit 9; 1 write 4.0; 2 enter 9; 2 read 4.0"},
		{3, "1 write 4.0; 2 enter 9; 1 exit 9; 2 read 4.0"}, {3, "1 write 4.0; 2 join 1; 1 write 4.0; 2 write 4.0"},
		// Behind EvStart and EvJoin of another one.
		{2, "1 write 4.0; 1 start 3; 2 write 4.0"}, {2, "1 write 4.0; 2 join 3; 2 write 4.0"}, {3, "1 write 4.0; 3; 2 join 3; 2 read 4.0"},
		// Another monitor; the same one, of which both did not take it, or let it go.
		{5, "1 enter 8; 1 write 4.0; 1 exit 8; 2 enter 9; 2 exit 9; 2 write 4.0"}, {4, "1 enter 8; 1 write 4.0; 1 exit 8; 2 enter 9; 2 write 4.0; 2 exit 9"}, {3, "1 enter 9; 1 write 4.0; 2 enter 9; 2 write 4.0"},
		{3, "1 enter 9; 1 write 4.0; 1 exit 9; 2 write 4.0"}, {3, "1 write 4.0; 1 enter 9; 1 exit 9; 2 write 4.0; 2 enter 9"},
		// One of those ahead is enough, be it the first one, or in the midst.
		{3, "1 read 4.0; 2 read 4.0; 3 join 1; 3 write 4.0"}, {3, "1 read 4.0; 2 read 4.0; 3 join 2; 3 write 4.0"}, {5, "1 read 4.0; 2 read 4.0; 3 read 4.0; 3 join 1; 1; 3 write 4.0"},
		{5, "1 read 4.0; 2 read 4.0; 3 join 1; 3 join 2; 2 read 4.0; 3 write 4.0"}, {4, "1 read 4.0; 2 read 4.0; 3 join 2; 3 read 4.0; 3 write 4.0"},
		// All that is ahead of a write is known to it; what comes behind it is not.
		{3, "1 write 4.0; 2 join 1; 2 write 4.0; 1 write 4.0"}, {4, "1 write 4.0; 2 join 1; 2 write 4.0; 3 join 1; 3 read 4.0"}, {5, "1 write 4.0; 2 join 1; 2 write 4.0; 1 read 5.0; 3 join 2; 1 read 4.0"},
		{5, "1 write 4.0; 2 join 1; 2 write 4.0; 2 write 4.0; 3 join 1; 3 write 4.0"}, {6, "1 read 4.0; 2 join 1; 2 write 4.0; 3 join 2; 3 read 4.0; 4 join 2; 4 write 4.0"},
		// The last one that let it go does not know of the first one.
		{5, "1 write 4.0; 1 exit 9; 2 exit 9; 3 enter 9; 3; 3 read 4.0"}, {3, "1 write 4.0; 1 start 2; 3 start 2; 2 read 4.0"},
	})
}

func TestWhatDoesNotRace(t *testing.T) {
	wantRaces(t, []raceCase{
		{-1, ""}, {-1, "1"}, {-1, "1 write 4.0"}, {-1, "1; 2; 3"},
		{-1, "1 read 4.0; 2 read 4.0; 3 read 4.0; 1 read 4.0"}, {-1, "1 write 4.0; 1 read 4.0; 1 write 4.0"}, {-1, "1 write 4.0; 2 write 5.0; 3 write 6.0"}, {-1, "1 write 4.0; 2 write 4.1; 3 read 4.2"},
		{-1, "1 write 4.0; 2 enter 4; 3 exit 4; 4 start 4; 5 join 4; 6"}, {-1, "1 write 4.5; 2 write 5.4"}, {-1, "1 write 2.0; 2 write 1.0"},
		// Ordered by EvStart, by EvJoin, by a monitor, and by what lies between.
		{-1, "1 write 4.0; 1 start 2; 1 read 5.0; 2 write 4.0; 2 read 4.0"}, {-1, "2 write 4.0; 1 join 2; 1 read 4.0; 1 write 4.0"}, {-1, "1 write 4.0; 1 exit 9; 2 enter 9; 2 read 4.0"},
		{-1, "1 enter 9; 1 write 4.0; 1 exit 9; 2 enter 9; 2 write 4.0; 2 exit 9; 1 enter 9; 1 read 4.0; 1 exit 9"}, {-1, "1 write 4.0; 1 start 2; 2 start 3; 3 write 4.0"},
		{-1, "1 write 4.0; 1 exit 9; 2 enter 9; 2 exit 8; 3 enter 8; 3 write 4.0"}, {-1, "1 read 4.0; 2 read 4.0; 3 join 1; 3 join 2; 3 write 4.0; 4 join 3; 4 read 4.0; 4 write 4.0"},
		{-1, "1 write 4.0; 1 start 2; 1 start 3; 2 read 4.0; 3 read 4.0; 1 read 4.0; 1 join 2; 1 join 3; 1 write 4.0"},
		// What is ahead of a write is known to whoever knows that write.
		{-1, "1 write 4.0; 2 join 1; 2 write 4.0; 3 join 2; 3 write 4.0"}, {-1, "1 read 4.0; 2 join 1; 2 write 4.0; 3 join 2; 3 read 4.0; 2 read 4.0"},
		{-1, "1 write 4.0; 1 start 2; 2 write 4.0; 2 exit 9; 1 enter 9; 1 write 4.0"},
	})
}

// wrongEvents are lists of which one event is not right, wherever it stands.
func wrongEvents() [][]impl.Event {
	var out [][]impl.Event
	base := eventsOf("1 write 4.0; 1 start 2; 2 write 4.0; 3 write 4.0; 1")
	for at := range base {
		for _, turn := range []func(e *impl.Event, n int){func(e *impl.Event, n int) { e.Who = n }, func(e *impl.Event, n int) { e.Kind = n }, func(e *impl.Event, n int) { e.Id = n }, func(e *impl.Event, n int) { e.At = n }} {
			for _, n := range append(edgeNumbers(), 0, 7, 8, 1000001) {
				list := slices.Clone(base)
				if turn(&list[at], n); !eventsRight(list) {
					out = append(out, list)
				}
			}
		}
	}
	return append(out, []impl.Event{{}}, make([]impl.Event, 3), slices.Repeat(eventsOf("1 write 4.0; 2 write 4.0"), 1501))
}

func TestRacesOfWrongLists(t *testing.T) {
	lists := wrongEvents()
	for _, list := range lists {
		if got := impl.Clocks(list); len(got) != 0 {
			t.Errorf("%s: %s", tellEvents(list), tellTimes(got))
		}
		if at := impl.RaceAt(list); at != -1 {
			t.Errorf("%s: %d", tellEvents(list), at)
		}
		for i := range min(len(list), 5) {
			for j := range min(len(list), 5) {
				if impl.Before(list, i, j) {
					t.Errorf("%s: %d is before %d", tellEvents(list), i, j)
				}
			}
		}
	}
	if len(lists) < 200 {
		t.Error(len(lists))
	}
}

func TestRacesOfLongLists(t *testing.T) {
	list := slices.Repeat(eventsOf("1 write 4.0; 2 write 5.0; 2 read 5.0"), 1000)
	if at := impl.RaceAt(list); at != -1 || !impl.Before(list, 0, 2997) || !impl.Before(list, 2998, 2999) || impl.Before(list, 0, 2999) || impl.Before(list, 2999, 3000) {
		t.Error(at)
	}
	clocks := impl.Clocks(list)
	if len(clocks) != 3000 || tellClock(clocks[2997]) != "1.1000" || tellClock(clocks[2999]) != "2.2000" {
		t.Error(tellTimes(clocks[2990:]))
	}
	// Only the last one of all races; as many are accepted, one more is refused.
	list[2999] = eventOf("2 read 4.0")
	if at := impl.RaceAt(list); at != 2999 || impl.RaceAt(list[:2999]) != -1 {
		t.Error(at)
	}
	long := append(list, eventOf("1"))
	if impl.RaceAt(long) != -1 || len(impl.Clocks(long)) != 0 || impl.Before(long, 0, 3) || !impl.Before(long[:3000], 0, 3) || impl.RaceAt(long[1:]) != 2998 {
		t.Error("one more")
	}
	for _, many := range []int{3002, 1 << 20} {
		long := slices.Repeat(eventsOf("1 write 4.0; 2 write 4.0"), many/2)
		if impl.RaceAt(long) != -1 || len(impl.Clocks(long)) != 0 || impl.Before(long, 0, 2) {
			t.Error(many)
		}
	}
}

// Of as many threads as there may be events the last one knows them all.
func TestRacesOfManyThreads(t *testing.T) {
	t.Parallel()
	var chain, apart []impl.Event
	for i := range 1500 {
		chain = append(chain, impl.Event{Who: i + 1, Kind: impl.EvWrite, Id: 4}, impl.Event{Who: i + 1, Kind: impl.EvStart, Id: i + 2})
		apart = append(apart, impl.Event{Who: 3000 - i, Kind: impl.EvRead, Id: 4}, impl.Event{Who: 1, Kind: impl.EvJoin, Id: 3000 - i})
	}
	clocks := impl.Clocks(chain)
	if last := clocks[2999]; len(last) != 1500 || last[0] != (impl.Stamp{Who: 1, N: 2}) || last[1499] != (impl.Stamp{Who: 1500, N: 2}) || impl.RaceAt(chain) != -1 || !impl.Before(chain, 0, 2999) || impl.Before(chain, 2999, 0) {
		t.Error("chain")
	}
	clocks = impl.Clocks(apart)
	if last := clocks[2999]; len(last) != 1501 || last[0] != (impl.Stamp{Who: 1, N: 1500}) || last[1] != (impl.Stamp{Who: 1501, N: 1}) || len(clocks[2998]) != 1 {
		t.Error("apart")
	}
	apart[2999] = eventOf("1 write 4.0")
	if at := impl.RaceAt(apart); at != 2999 {
		t.Error(at)
	}
	apart[2998] = eventOf("1")
	if at := impl.RaceAt(apart); at != -1 {
		t.Error(at)
	}
}

// shortEvents are all that two threads can do with one field and one monitor, and with each other.
func shortEvents() []impl.Event {
	return eventsOf("1; 2; 1 read 4.0; 2 read 4.0; 1 write 4.0; 2 write 4.0; 1 enter 9; 2 enter 9; 1 exit 9; 2 exit 9; 1 start 1; 1 start 2; 2 start 1; 2 start 2; 1 join 1; 1 join 2; 2 join 1; 2 join 2")
}

func TestRacesOfAllShortLists(t *testing.T) {
	t.Parallel()
	all := shortEvents()
	var counts [2]int
	for n := range len(all) * len(all) * len(all) {
		list := []impl.Event{all[n%len(all)], all[n/len(all)%len(all)], all[n/len(all)/len(all)]}
		counts[flagVal(wantTimes(t, list) >= 0).N]++
		// Two more, that race if nothing orders them.
		list = append(list, eventOf("1 write 4.0"), eventOf("2 write 4.0"))
		counts[flagVal(wantTimes(t, list) >= 0).N]++
	}
	if counts[0] < 4000 || counts[1] < 4000 {
		t.Errorf("%v", counts)
	}
}

// someList has events of so many threads, fields and monitors, with more or fewer that order them.
func (d *dice) someList(long, threads, fields, orders int) []impl.Event {
	var list []impl.Event
	for range long {
		e := impl.Event{Who: 1 + d.below(threads)}
		switch {
		case d.below(10) < orders:
			e.Kind, e.Id = 3+d.below(4), 1+d.below(threads)
		case d.below(8) > 0:
			e.Kind, e.Id, e.At = []int{1, 1, 1, 2}[d.below(4)], 1+d.below(fields), d.below(2)
		}
		list = append(list, e)
	}
	return list
}

func TestRacesOfManyLists(t *testing.T) {
	t.Parallel()
	d := dice(191)
	var counts [2]int
	late := 0
	for range 1200 {
		list := d.someList(5+d.below(25), 2+d.below(4), 1+d.below(6), 4+d.below(6))
		at := wantTimes(t, list)
		counts[flagVal(at >= 0).N]++
		late += flagVal(at > 12).N
		// What comes later turns nothing at what was.
		clocks := impl.Clocks(list)
		for cut := range list {
			race := at
			if at >= cut {
				race = -1
			}
			if got := impl.RaceAt(list[:cut]); got != race || tellTimes(impl.Clocks(list[:cut])) != tellTimes(clocks[:cut]) {
				t.Fatalf("%s: up to %d it races at %d, in all at %d", tellEvents(list), cut, got, at)
			}
		}
	}
	if slices.Min(counts[:]) < 250 || late < 60 {
		t.Errorf("%v, %d", counts, late)
	}
}

func TestRacesOfLongerLists(t *testing.T) {
	d := dice(192)
	late := 0
	for range 60 {
		list := d.someList(150+d.below(200), 2+d.below(7), 80, 7)
		book := pastsOf(list)
		late += flagVal(wantRace(t, list, book) > 50).N
		for at, clock := range impl.Clocks(list) {
			if !slices.Equal(clock, book.clock(list, at)) {
				t.Fatalf("%s: %q at %d", tellEvents(list), tellClock(clock), at)
			}
		}
		for range 20 {
			if i, j := d.below(len(list)), d.below(len(list)); impl.Before(list, i, j) != book.before(i, j) {
				t.Fatalf("%s: Before of %d and %d", tellEvents(list), i, j)
			}
		}
	}
	if late < 15 {
		t.Error(late)
	}
}

// P19: one thread alone never races, whatever it does.
func TestOneThreadAloneNeverRaces(t *testing.T) {
	t.Parallel()
	d := dice(193)
	for range 300 {
		list := d.someList(d.below(120), 3, 2, d.below(8))
		who := []int{1, 2, 17, impl.MaxId}[d.below(4)]
		for i := range list {
			list[i].Who = who
		}
		if at := impl.RaceAt(list); at != -1 {
			t.Fatalf("%s races at %d", tellEvents(list), at)
		}
		for j := range list {
			if j > 0 && !impl.Before(list, d.below(j), j) {
				t.Fatalf("%s: not all is before %d", tellEvents(list), j)
			}
		}
	}
	base := lifeProg(t)
	for lives := 0; lives < 40; {
		if p, ok := d.livingProg(base); ok {
			lives++
			if !impl.WellMade(newModel(t, p), slices.Repeat([]int{1}, 200)) {
				t.Fatalf("%+v", p)
			}
		}
	}
}

// A guardBook has who holds which monitor, how often: what two threads must not do at once is not done.
type guardBook map[int]*struct{ who, count int }

// guardedList: each access of field f stands between EvEnter and EvExit of the monitor of that field's object by that thread.
func (d *dice) guardedList(long, threads, objects int) []impl.Event {
	locks := guardBook{}
	for id := 1; id <= objects; id++ {
		locks[id] = &struct{ who, count int }{}
	}
	var list []impl.Event
	for len(list) < long {
		e := impl.Event{Who: 1 + d.below(threads), Id: 1 + d.below(objects)}
		switch lock := locks[e.Id]; {
		case d.below(9) == 0:
			e = impl.Event{Who: e.Who, Kind: []int{0, 5, 6}[d.below(3)], Id: d.below(threads + 2)}
		case lock.count == 0:
			e.Kind, lock.who, lock.count = 3, e.Who, 1
		case lock.who != e.Who:
			continue
		case d.below(3) > 0:
			e.Kind, e.At = 1+d.below(2), d.below(3)
		case lock.count < 3 && d.below(2) == 0:
			e.Kind, lock.count = 3, lock.count+1
		default:
			e.Kind, lock.count = 4, lock.count-1
		}
		list = append(list, e)
	}
	return list
}

// P19: what is guarded by one monitor never races, whoever takes it when, and how often.
func TestWhatIsGuardedNeverRaces(t *testing.T) {
	d := dice(194)
	unguarded, moved := 0, 0
	for range 400 {
		list := d.guardedList(20+d.below(150), 2+d.below(5), 1+d.below(3))
		if at := impl.RaceAt(list); at != -1 {
			t.Fatalf("%s races at %d", tellEvents(list), at)
		}
		// Without what lets go, and with each thread's own monitors, they mostly race.
		alone := slices.DeleteFunc(slices.Clone(list), func(e impl.Event) bool { return e.Kind == 4 })
		unguarded += flagVal(wantRace(t, alone, pastsOf(alone)) >= 0).N
		for i, e := range list {
			if e.Kind == 3 || e.Kind == 4 {
				list[i].Id += 100 * e.Who
			}
		}
		moved += flagVal(wantRace(t, list, pastsOf(list)) >= 0).N
	}
	if unguarded < 200 || moved < 200 {
		t.Errorf("%d, %d", unguarded, moved)
	}
}

// A guard is what stands around what is done to a Cell.
type guard struct{ ahead, behind string }

var (
	cellGuard = guard{"load 1\nenter\n", "load 1\nexit\n"}
	ownGuard  = guard{"load 0\nenter\n", "load 0\nexit\n"}
	noGuard   = guard{}
)

// cellDeeds are what is done to the Cell of local 1.
const cellDeeds = "load 1\nload 1\nget Cell.n\npush 1\nadd\nput Cell.n\n"

// guardText: two threads of Work and the first one do the same to one Cell, each twice; the first one joins both ahead of what it prints.
func guardText(first, work guard) string {
	return "class Main\nmethod run I 4\nnew Cell\nstore 1\nnew Work\nstore 2\nload 2\nload 1\nput Work.cell\nload 2\nstart\nnew Work\nstore 3\nload 3\nload 1\nput Work.cell\nload 3\nstart\n" +
		first.ahead + cellDeeds + first.behind + "load 2\njoin\nload 3\njoin\nload 1\nget Cell.n\nprint\npush 0\nreturn\n" +
		"class Cell\nfield n I\nclass Work\nfield cell Cell\nmethod run I 2\nload 0\nget Work.cell\nstore 1\n" + strings.Repeat(work.ahead+cellDeeds+work.behind, 2) + "push 0\nreturn\n"
}

// wantWellMade asks for WellMade by the trace, and tells it.
func wantWellMade(t *testing.T, m impl.Model, order []int) bool {
	t.Helper()
	list := impl.Trace(m, order)
	at := wantRace(t, list, pastsOf(list))
	if impl.WellMade(m, order) != (at == -1) {
		t.Fatalf("%+v: WellMade of %v is %v, but %s races at %d", m.Prog, order, at != -1, tellEvents(list), at)
	}
	return at == -1
}

func TestWellMade(t *testing.T) {
	d := dice(195)
	for _, x := range []struct {
		first, work guard
		least, most int
	}{
		{cellGuard, cellGuard, 80, 80}, {noGuard, cellGuard, 0, 40}, {cellGuard, noGuard, 0, 40}, {noGuard, noGuard, 0, 40}, {ownGuard, ownGuard, 0, 40}, {ownGuard, cellGuard, 0, 40},
	} {
		m := newModel(t, progOf(t, guardText(x.first, x.work)))
		made := 0
		for range 80 {
			order := make([]int, 60+d.below(200))
			for i := range order {
				order[i] = []int{1, 18, 19, 18, 19, 17, 0}[d.below(7)]
			}
			made += flagVal(wantWellMade(t, m, order)).N
		}
		if made < x.least || made > x.most {
			t.Errorf("%+v: %d of 80 are well made", x, made)
		}
		// One thread alone, and none.
		for _, order := range [][]int{nil, {}, {0, 17, 99}, slices.Repeat([]int{1}, 300), edgeNumbers()} {
			if !wantWellMade(t, m, order) {
				t.Errorf("%+v: %v", x, order)
			}
		}
	}
}

// Up to the event that races it is well made; which one that is, is told by hand.
func TestWellMadeUpToTheRace(t *testing.T) {
	m := newModel(t, progOf(t, "class Main\nfield n I\nmethod run I 2\nnew Work\nstore 1\nload 1\nload 0\nput Work.of\nload 1\nstart\nload 0\npush 1\nput Main.n\npush 0\nreturn\n"+
		"class Work\nfield of Main\nmethod run I 1\nload 0\nget Work.of\nget Main.n\nprint\npush 0\nreturn\n"))
	ahead := slices.Repeat([]int{1}, 9)
	for _, x := range []struct {
		order []int
		at    int
	}{
		// The first one writes, the second one reads; and the other way round.
		{[]int{1, 17, 17, 17, 17}, 12}, {[]int{17, 17, 17, 1, 17}, 12}, {[]int{17, 1, 17, 1, 17}, 13},
		// Only one of both.
		{[]int{17, 17, 17, 17, 17, 17, 17}, -1}, {[]int{1, 1, 1, 17, 17}, -1},
	} {
		order := slices.Concat(ahead, x.order)
		if at := impl.RaceAt(impl.Trace(m, order)); at != x.at {
			t.Errorf("%v: %d, %s", order, at, tellEvents(impl.Trace(m, order)))
		}
		for long := range len(order) + 1 {
			if made := impl.WellMade(m, order[:long]); made != (x.at < 0 || long <= x.at) {
				t.Errorf("%v: %v", order[:long], made)
			}
		}
	}
}

// Programs that are checked, with monitors here and there.
func TestWellMadeOfManyPrograms(t *testing.T) {
	t.Parallel()
	d := dice(196)
	base := lifeProg(t)
	var counts [2]int
	for lives := 0; lives < 120; {
		p, ok := d.livingProg(base)
		if !ok {
			continue
		}
		lives++
		m := newModel(t, p)
		for range 4 {
			now := m
			var order []int
			for range 120 {
				order = append(order, now.Threads[min(d.below(len(now.Threads)), d.below(len(now.Threads)))].Id)
				now, _ = impl.Step(now, order[len(order)-1])
			}
			counts[flagVal(wantWellMade(t, m, order)).N]++
		}
	}
	if counts[0] < 8 || counts[1] < 200 {
		t.Errorf("%v", counts)
	}
}

// guardedDeed is done to the object of a local, all of it behind its monitor; here and there it does likewise to the other one meanwhile.
func (d *dice) guardedDeed(deep int) string {
	cell := fmt.Sprintf("load %d\n", 1+d.below(2))
	text := cell + "enter\n"
	for range 1 + d.below(2) {
		field := d.of("n", "m") + "\n"
		text += d.of(cell+"get Cell."+field+"print\n", cell+"push 7\nput Cell."+field, cell+cell+"get Cell."+field+"push 1\nadd\nput Cell."+field)
	}
	if deep > 0 && d.below(3) == 0 {
		text += d.guardedDeed(deep - 1)
	}
	return text + cell + "exit\n"
}

// P19: whatever threads do, if it is done to each object behind its monitor.
func TestProgramsThatAreGuardedAreWellMade(t *testing.T) {
	t.Parallel()
	d := dice(198)
	touched, races := 0, 0
	for done := 0; done < 60; {
		first, work, again := d.guardedDeed(0), d.guardedDeed(1), d.guardedDeed(0)
		text := "class Main\nmethod run I 5\nnew Cell\nstore 1\nnew Cell\nstore 2\n" + strings.Repeat("new Work\nstore 3\nload 3\nload 1\nput Work.a\nload 3\nload 2\nput Work.b\nload 3\nstart\n", 2) + first + "push 0\nreturn\n" +
			"class Cell\nfield n I\nfield m I\nclass Work\nfield a Cell\nfield b Cell\nmethod run I 3\nload 0\nget Work.a\nstore 1\nload 0\nget Work.b\nstore 2\n" + work + again + "push 0\nreturn\n"
		if _, short := impl.SetRead(text); !short {
			continue
		}
		done++
		m := newModel(t, progOf(t, text))
		open := newModel(t, progOf(t, strings.NewReplacer("enter\n", "pop\n", "exit\n", "pop\n").Replace(text)))
		for range 12 {
			order := slices.Repeat([]int{1}, 24)
			for range 150 {
				order = append(order, []int{1, 19, 20}[d.below(3)])
			}
			if !wantWellMade(t, m, order) {
				t.Fatalf("%s", text)
			}
			list := impl.Trace(m, order)
			touched += flagVal(slices.ContainsFunc(list, func(e impl.Event) bool { return e.Who == 19 && e.Id < 19 && e.Kind == 2 })).N
			races += flagVal(!wantWellMade(t, open, order)).N
		}
	}
	if touched < 300 || races < 300 {
		t.Errorf("%d, %d", touched, races)
	}
}

// What is not right has no trace, and so no race; neither has an order that is too long.
func TestWellMadeOfWhatIsWrong(t *testing.T) {
	t.Parallel()
	m := newModel(t, progOf(t, guardText(noGuard, noGuard)))
	order := make([]int, 3000)
	for i := range order {
		order[i] = []int{1, 18, 19}[i%3]
	}
	if impl.WellMade(m, order) || impl.WellMade(m, order[:60]) || !impl.WellMade(m, append(order, 1)) || !impl.WellMade(m, slices.Repeat(order, 100)) {
		t.Error("an order that is too long")
	}
	for _, turn := range []func(m *impl.Model){
		func(m *impl.Model) { *m = impl.Model{} },
		func(m *impl.Model) { m.Prog = impl.Prog{} },
		func(m *impl.Model) { m.Prog.Kinds[1].Name = "Main" },
		func(m *impl.Model) { m.Memory.Objects[0].Id = 0 },
		func(m *impl.Model) { m.Threads[0].Made = 16 },
		func(m *impl.Model) { m.Threads = append(m.Threads, m.Threads[0]) },
		func(m *impl.Model) { m.Out = make([]int, 401) },
	} {
		wrong := cloneModel(m)
		if turn(&wrong); !impl.WellMade(wrong, order) || !impl.WellMade(wrong, nil) {
			t.Errorf("%s", tellModel(wrong))
		}
	}
	for _, m := range modelsFarTooGreat(t) {
		if !impl.WellMade(m, []int{3, 3}) {
			t.Error("far too great")
		}
	}
}

// listsForMemory are right and wrong ones.
func listsForMemory() []string {
	return []string{
		"", "1", "1; 2; 1", "1 write 4.0; 2 write 4.0", "1 start 2; 2; 1 join 2; 2", "1 exit 9; 2 exit 9; 3 enter 9; 1 enter 9; 2 enter 9", "1 start 2; 3 start 2; 2 enter 9; 3 join 2; 1 join 3",
		"1 write 4.0; 1 start 2; 2 write 4.0; 2 exit 9; 1 enter 9; 1 read 4.0; 3 read 4.0", "0", "1; 0; 1 write 4.0", "1 start 2; 2 join 1000001",
	}
}

// P33: neither a list nor the room behind it is written; the clocks of an answer share no memory with each other, nor with another answer.
func TestRacesWriteNothing(t *testing.T) {
	for _, told := range listsForMemory() {
		list, whole := roomy(eventsOf(told), eventOf("8 write 4.0"))
		were := slices.Clone(whole)
		first, second := impl.Clocks(list), impl.Clocks(list)
		want := tellTimes(second)
		impl.RaceAt(list)
		for i := range list {
			impl.Before(list, 0, i)
		}
		var all [][]impl.Stamp
		for _, clock := range slices.Concat(first, second) {
			all = append(all, clock[:cap(clock)])
		}
		if tellTimes(first) != want || !marksStay(all, func(s *impl.Stamp, n int) { s.N = n }) {
			t.Fatalf("%q: the clocks share memory", told)
		}
		spoilAll(first, clockOf("55.55"))
		if third := impl.Clocks(list); tellTimes(third) != want || !slices.Equal(whole, were) {
			t.Fatalf("%q: %s in place of %s; %s", told, tellTimes(third), want, tellEvents(whole))
		}
	}
}

// What an answer tells stays, whatever becomes of the list, of another answer, or of the clock behind or ahead.
func TestClocksOfAListAreItsOwn(t *testing.T) {
	for _, told := range listsForMemory() {
		list := eventsOf(told)
		got := impl.Clocks(list)
		want := tellTimes(got)
		for i := range list {
			list[i] = impl.Event{Who: 55, Kind: 55, Id: 55, At: 55}
		}
		if tellTimes(got) != want {
			t.Errorf("%q: %s in place of %s", told, tellTimes(got), want)
		}
		for i := range got {
			again := impl.Clocks(eventsOf(told))
			spoilAll(again[i], impl.Stamp{Who: 55, N: 55})
			again[i] = got[i]
			if tellTimes(again) != want {
				t.Errorf("%q: %s in place of %s, when %d is spoilt", told, tellTimes(again), want, i)
			}
		}
	}
}

// tellRaces tells all that the chapter's functions answer to a list.
func tellRaces(told string) string {
	list := eventsOf(told)
	out := []string{tellTimes(impl.Clocks(list)), fmt.Sprint(impl.RaceAt(list))}
	for i := -1; i <= len(list); i++ {
		for j := -1; j <= len(list); j++ {
			out = append(out, fmt.Sprint(impl.Before(list, i, j)))
		}
	}
	for _, a := range list {
		for _, b := range list {
			out = append(out, fmt.Sprint(impl.Clash(a, b)))
		}
	}
	return strings.Join(out, "; ")
}

// P33: no call leaves anything behind that a later one shows; the order in which maps are gone through shows nowhere.
func TestRacesKeepNothing(t *testing.T) {
	t.Parallel()
	wantToldAgain(t, listsForMemory(), tellRaces)
	d := dice(197)
	for range 30 {
		list := tellEvents(d.someList(16, 5, 2, 6))
		want := tellRaces(list)
		for range 8 {
			if got := tellRaces(list); got != want {
				t.Fatalf("%s: %s in place of %s", list, got, want)
			}
		}
	}
}

// tellWellMade tells what becomes of a model at several orders.
func tellWellMade(m impl.Model) string {
	var told []string
	for _, order := range [][]int{nil, {3}, {3, 10, 3, 10, 3}, {1, 17, 1, 17}, slices.Repeat([]int{3, 8, 10}, 12)} {
		given, whole := roomy(order, 3)
		told = append(told, fmt.Sprint(impl.WellMade(m, given), whole))
	}
	return strings.Join(told, "; ")
}

func TestWellMadeWritesNothing(t *testing.T) { wantModelsUnwritten(t, tellWellMade) }

func TestWellMadeKeepsNothing(t *testing.T) { wantModelsToldAgain(t, tellWellMade) }
