package tests

import (
	"fmt"
	"maps"
	"math"
	"slices"
	"strings"
	"testing"

	"loop.example/g00283/impl"
)

// A note is to an id what a stamp is to who: lists of notes are read, told and reckoned like clocks.
func notesAs(list []impl.Stamp) []impl.Note {
	var notes []impl.Note
	for _, s := range list {
		notes = append(notes, impl.Note{Id: s.Who, Version: s.N})
	}
	return notes
}

func stampsAs(notes []impl.Note) []impl.Stamp {
	var list []impl.Stamp
	for _, x := range notes {
		list = append(list, impl.Stamp{Who: x.Id, N: x.Version})
	}
	return list
}

func notesOf(told string) []impl.Note { return notesAs(clockOf(told)) }

func tellNotes(list []impl.Note) string { return tellClock(stampsAs(list)) }

func noteBookOf(list []impl.Note) clockBook { return bookOf(stampsAs(list)) }

func ofNotes() joining {
	return joining{
		func(list []impl.Stamp) bool { return impl.NotesOk(notesAs(list)) },
		func(a, b []impl.Stamp) []impl.Stamp { return stampsAs(impl.MergeNotes(notesAs(a), notesAs(b))) },
		func(a, b []impl.Stamp) bool { return impl.Covers(notesAs(a), notesAs(b)) },
	}
}

// notesRight tells by itself what NotesOk has to answer, and so do addThere, mergeThere and coversThere of the chapter's functions.
func notesRight(list []impl.Note) bool { return len(list) <= 130 && clockRight(stampsAs(list)) }

func addThere(list []impl.Note, id, version int) []impl.Note {
	x := noteBookOf(list)
	_, there := x[id]
	switch {
	case !notesRight(list) || version <= x[id] || version > 16777215 || id < 1 || id > 1000000 || !there && len(list) == 130:
		return list
	}
	x[id] = version
	return notesAs(x.clock())
}

func mergeThere(a, b []impl.Note) []impl.Note {
	x := noteBookOf(a)
	x.joins(noteBookOf(b))
	if !notesRight(a) || !notesRight(b) || len(x) > 130 {
		return a
	}
	return notesAs(x.clock())
}

func coversThere(a, b []impl.Note) bool {
	return notesRight(a) && notesRight(b) && noteBookOf(a).knows(noteBookOf(b))
}

func wantNoteOf(t *testing.T, told string, id, version int) {
	t.Helper()
	if got := impl.NoteOf(notesOf(told), id); got != version {
		t.Errorf("NoteOf of %d in %q is %d in place of %d", id, told, got, version)
	}
}

func TestNoteOf(t *testing.T) {
	for _, x := range countCases() {
		wantNoteOf(t, x.told, x.who, x.n)
	}
	if impl.NoteOf([]impl.Note{}, 1) != 0 || impl.NoteOf([]impl.Note{{}}, 0) != 0 {
		t.Error("nothing")
	}
}

func wantAdded(t *testing.T, was string, id, version int, told string) {
	t.Helper()
	got := impl.AddNote(notesOf(was), id, version)
	if tellNotes(got) != told {
		t.Errorf("AddNote of %d.%d to %q is %q in place of %q", id, version, was, tellNotes(got), told)
	}
	if impl.Covers(got, notesOf(was)) != impl.NotesOk(notesOf(was)) {
		t.Errorf("AddNote of %d.%d to %q: what it tells does not cover that", id, version, was)
	}
}

func TestAddNote(t *testing.T) {
	const was = "2.5 7.1 40.8"
	// A new id ahead of, between and behind all others, next to them and far away.
	wantAdded(t, was, 1, 3, "1.3 2.5 7.1 40.8")
	wantAdded(t, was, 3, 3, "2.5 3.3 7.1 40.8")
	wantAdded(t, was, 6, 1, "2.5 6.1 7.1 40.8")
	wantAdded(t, was, 8, 9, "2.5 7.1 8.9 40.8")
	wantAdded(t, was, 39, 8, "2.5 7.1 39.8 40.8")
	wantAdded(t, was, 41, 7, "2.5 7.1 40.8 41.7")
	wantAdded(t, was, impl.MaxId, 2, "2.5 7.1 40.8 1000000.2")
	// An id that is there, with a greater version, the same one and a lesser one.
	for _, greater := range []int{9, 10, impl.MaxNum} {
		wantAdded(t, was, 2, greater, fmt.Sprintf("2.%d 7.1 40.8", greater))
		wantAdded(t, was, 7, greater, fmt.Sprintf("2.5 7.%d 40.8", greater))
		wantAdded(t, was, 40, greater, fmt.Sprintf("2.5 7.1 40.%d", greater))
	}
	wantAdded(t, was, 2, 6, "2.6 7.1 40.8")
	wantAdded(t, was, 7, 2, "2.5 7.2 40.8")
	for _, id := range []int{2, 7, 40} {
		for version := 1; version <= impl.NoteOf(notesOf(was), id); version++ {
			wantAdded(t, was, id, version, was)
		}
	}
	// An empty list, and one of one note.
	wantAdded(t, "", 1, 1, "1.1")
	wantAdded(t, "", 17, 3, "17.3")
	wantAdded(t, "", impl.MaxId, impl.MaxNum, "1000000.16777215")
	wantAdded(t, "7.1", 7, 2, "7.2")
	wantAdded(t, "7.1", 6, 2, "6.2 7.1")
	wantAdded(t, "7.1", 8, 2, "7.1 8.2")
	// Edges of id and version.
	wantAdded(t, "1.1 1000000.1", 1, impl.MaxNum, "1.16777215 1000000.1")
	wantAdded(t, "1.1 1000000.1", impl.MaxId, 2, "1.1 1000000.2")
	wantAdded(t, "1.1 1000000.1", 999999, 1, "1.1 999999.1 1000000.1")
	wantAdded(t, "1.16777214", 1, impl.MaxNum, "1.16777215")
	wantAdded(t, "1.16777215", 1, impl.MaxNum, "1.16777215")
	wantAdded(t, "1.16777215", 1, impl.MaxNum+1, "1.16777215")
	wantAdded(t, "1.16777215 1000000.16777215", 2, 1, "1.16777215 2.1 1000000.16777215")
}

func TestAddNoteOfNone(t *testing.T) {
	for _, was := range []string{"", "1.1", "2.5 7.1 40.8", "1.16777215 1000000.16777215"} {
		for _, n := range append(edgeNumbers(), 0, impl.MaxNum+1, impl.MaxNum+2, 1<<32+7) {
			for _, other := range []int{1, 2, 7, 8, impl.MaxId} {
				wantAdded(t, was, n, other, was)
				wantAdded(t, was, other, n, was)
			}
			wantAdded(t, was, n, n, was)
		}
		for _, id := range []int{impl.MaxId + 1, impl.MaxId + 2, impl.MaxNum} {
			wantAdded(t, was, id, 1, was)
			wantAdded(t, was, id, impl.MaxNum, was)
		}
	}
	// What is not NotesOk is not mended.
	for _, was := range wrongNotes() {
		for _, id := range []int{0, 1, 2, 3, 5, 9, 40, impl.MaxId, impl.MaxId + 1} {
			for _, version := range []int{0, 1, 2, 6, impl.MaxNum, impl.MaxNum + 1} {
				wantAdded(t, was, id, version, was)
			}
		}
	}
}

// wrongNotes are not NotesOk: one for each reason, ahead of, between and behind others.
func wrongNotes() []string {
	return append(wrongClocks(), "2.16777216 1.0", "1000001.16777216", tellNotes(manyNotes(impl.MaxNotes+1)), tellNotes(manyNotes(2*impl.MaxNotes)))
}

// wantMerged asks either way round; of what may be, whose list it was does not count.
func wantMerged(t *testing.T, a, b, told string) {
	t.Helper()
	for range 2 {
		got := impl.MergeNotes(notesOf(a), notesOf(b))
		if tellNotes(got) != told {
			t.Errorf("MergeNotes of %q and %q is %q in place of %q", a, b, tellNotes(got), told)
		}
		if !impl.NotesOk(got) || !impl.Covers(got, notesOf(a)) || !impl.Covers(got, notesOf(b)) {
			t.Errorf("MergeNotes of %q and %q does not cover both", a, b)
		}
		for _, again := range []string{a, b, told} {
			if tellNotes(impl.MergeNotes(got, notesOf(again))) != told || tellNotes(impl.MergeNotes(notesOf(again), got)) != told {
				t.Errorf("MergeNotes of %q and %q, merged with %q again, changes", a, b, again)
			}
		}
		a, b = b, a
	}
}

func TestMergeNotes(t *testing.T) {
	for _, x := range joinCases() {
		wantMerged(t, x[0], x[1], x[2])
	}
	// One list for both.
	list := notesOf("1.5 7.1 40.8")
	if got := impl.MergeNotes(list, list); tellNotes(got) != "1.5 7.1 40.8" || !impl.Covers(list, list) {
		t.Error("a list and itself", got)
	}
}

func wantCovers(t *testing.T, a, b string, covers, back bool) {
	t.Helper()
	if impl.Covers(notesOf(a), notesOf(b)) != covers {
		t.Errorf("Covers of %q and %q is %v", a, b, !covers)
	}
	if impl.Covers(notesOf(b), notesOf(a)) != back {
		t.Errorf("Covers of %q and %q is %v", b, a, !back)
	}
}

func TestCovers(t *testing.T) {
	for _, x := range knowsCases() {
		wantCovers(t, x.a, x.b, x.knows, x.back)
	}
}

// What is not NotesOk is neither merged, nor does it cover or is it covered: not even by itself.
func TestNotesThatAreNone(t *testing.T) {
	wrong := wrongNotes()
	for _, w := range wrong {
		if notesRight(notesOf(w)) || impl.NotesOk(notesOf(w)) {
			t.Errorf("%q is NotesOk", w)
		}
		for _, other := range append([]string{"", "1.1", "1.16777215", "2.5 7.1 40.8", "1.5 2.5 3.5 5.5 9.5", w}, wrong...) {
			for _, pair := range [][2]string{{w, other}, {other, w}} {
				a, b := notesOf(pair[0]), notesOf(pair[1])
				if got := impl.MergeNotes(a, b); tellNotes(got) != pair[0] {
					t.Errorf("MergeNotes of %q and %q is %q", pair[0], pair[1], tellNotes(got))
				}
				if impl.Covers(a, b) {
					t.Errorf("%q covers %q", pair[0], pair[1])
				}
			}
		}
	}
}

// wantOneList asks what is asked of one list.
func wantOneList(t *testing.T, list []impl.Note, ids, versions []int) (right bool) {
	t.Helper()
	right = notesRight(list)
	x := noteBookOf(list)
	for _, id := range ids {
		if got := impl.NoteOf(list, id); got != x[id] {
			t.Fatalf("NoteOf of %d in %s is %d", id, tellNotes(list), got)
		}
		for _, version := range versions {
			got, want := impl.AddNote(list, id, version), addThere(list, id, version)
			if !slices.Equal(got, want) || impl.NotesOk(got) != right || impl.Covers(got, list) != right {
				t.Fatalf("AddNote of %d.%d to %s is %s in place of %s", id, version, tellNotes(list), tellNotes(got), tellNotes(want))
			}
		}
	}
	return right
}

// All lists of at most three of the notes at the edges, right and wrong ones.
func TestShortNotes(t *testing.T) {
	t.Parallel()
	ids, versions := []int{-1, 0, 1, 2, 3, impl.MaxId - 1, impl.MaxId, impl.MaxId + 1}, []int{-1, 0, 1, 2, impl.MaxNum, impl.MaxNum + 1}
	var counts [2]int
	for _, list := range shortClocks() {
		counts[flagVal(wantOneList(t, notesAs(list), ids, versions)).N]++
	}
	// Of each of three ids that are right there is none, the least version or the greatest one.
	if counts != [2]int{1 + 20 + 400 + 8000 - 27, 27} {
		t.Errorf("%v", counts)
	}
}

// One number of a longer list is turned.
func TestTurnedNotes(t *testing.T) {
	const told = "1.3 2.1 17.16777214 40.16777215 999999.8 1000000.1"
	versions := []int{0, 1, 2, 4, impl.MaxNum, impl.MaxNum + 1}
	var counts [2]int
	for i := range notesOf(told) {
		for _, n := range append(edgeNumbers(), 0, 1, 2, 3, 16, 17, 18, 39, 40, 41, 999998, impl.MaxId, impl.MaxId+1, impl.MaxNum-1, impl.MaxNum, impl.MaxNum+1) {
			ids, asks := notesOf(told), notesOf(told)
			ids[i].Id, asks[i].Version = n, n
			counts[flagVal(wantOneList(t, ids, []int{0, 1, 2, 17, 18, 40, n, impl.MaxId}, versions)).N]++
			counts[flagVal(wantOneList(t, asks, []int{0, 1, 2, 17, 18, 40, n, impl.MaxId}, versions)).N]++
		}
	}
	for _, list := range turnedLists(notesOf(told)) {
		counts[flagVal(wantOneList(t, list, []int{1, 17, impl.MaxId}, versions)).N]++
	}
	if counts[0] < 150 || counts[1] < 60 {
		t.Errorf("%v", counts)
	}
}

// P22: who merged notes covers both, and has nothing beside them.
func TestWhoMergedNotesCoversBoth(t *testing.T) {
	t.Parallel()
	ofNotes().wantBoth(t)
}

func TestMergedIsTheLeastThatCoversBoth(t *testing.T) {
	t.Parallel()
	ofNotes().wantLeast(t)
}

// One note added is a list of one note merged, wherever that is right.
func TestOneNoteIsMerged(t *testing.T) {
	for _, list := range edgeClocks() {
		a := notesAs(list)
		for _, id := range []int{1, 2, 3, 4, impl.MaxId - 1, impl.MaxId} {
			for _, version := range []int{1, 2, 3, impl.MaxNum} {
				one := versionsOf(id, version)
				got := impl.AddNote(a, id, version)
				if !slices.Equal(got, impl.MergeNotes(a, one)) || !impl.Covers(got, one) || impl.NoteOf(got, id) != max(impl.NoteOf(a, id), version) {
					t.Fatalf("AddNote of %d.%d to %q is %q", id, version, tellNotes(a), tellNotes(got))
				}
				if stays := impl.NoteOf(a, id) >= version; slices.Equal(got, a) != stays || impl.Covers(a, got) != stays || impl.Covers(a, one) != stays {
					t.Fatalf("AddNote of %d.%d to %q is %q: %v", id, version, tellNotes(a), tellNotes(got), stays)
				}
			}
		}
	}
}

// notesFrom are n notes of every so manieth id, from first on.
func notesFrom(first, step, n, version int) []impl.Note {
	list := make([]impl.Note, n)
	for i := range list {
		list[i] = impl.Note{Id: first + step*i, Version: version}
	}
	return list
}

func TestAddNoteToAsManyAsThereMayBe(t *testing.T) {
	if impl.MaxNotes != 130 {
		t.Fatal("MaxNotes")
	}
	full := notesFrom(10, 10, 130, 5)
	others := []int{1, 9, 11, 655, 1299, 1301, impl.MaxId}
	for _, id := range others {
		// One more than there may be.
		for _, version := range []int{1, 5, 6, impl.MaxNum} {
			wantAdded(t, tellNotes(full), id, version, tellNotes(full))
		}
		// As many as there may be: one note less was there, of whatever id.
		for _, at := range []int{0, 1, 64, 128, 129} {
			less := slices.Delete(slices.Clone(full), at, at+1)
			got := impl.AddNote(less, id, 6)
			if len(got) != 130 || !slices.Equal(got, addThere(less, id, 6)) || impl.NoteOf(got, id) != 6 || !impl.NotesOk(got) {
				t.Errorf("AddNote of %d.6 to all but the note at %d is %s", id, at, tellNotes(got))
			}
		}
	}
	// An id that is there: told, if the version is greater.
	for at, x := range full {
		for version := range 8 {
			want := slices.Clone(full)
			want[at].Version = max(5, version)
			wantAdded(t, tellNotes(full), x.Id, version, tellNotes(want))
		}
	}
	// More than there may be are as they were.
	over := notesFrom(10, 10, 131, 5)
	for _, id := range append(others, 10, 650, 1310) {
		wantAdded(t, tellNotes(over), id, 6, tellNotes(over))
	}
}

func TestMergeNotesOfAsManyAsThereMayBe(t *testing.T) {
	for _, n := range []int{0, 1, 2, 64, 65, 66, 128, 129, 130} {
		for _, common := range []int{0, 1, 2, 30, 64} {
			for _, step := range []int{1, 2, 7} {
				a := notesFrom(100, step, n, 5)
				for _, ids := range []int{129, 130, 131, 132, 230, 260} {
					// As many ids between them as that, some of which both have.
					ofB := ids - n + common
					if common > n || ofB < common || ofB > 130 {
						continue
					}
					b := notesFrom(100+step*(n-common), step, ofB, 6)
					wantBetween(t, a, b, ids)
					// In turns, as far as both go.
					wantBetween(t, a, notesFrom(101, 2*step, ids-n, 6), -1)
				}
			}
		}
	}
	// What has as many notes as there may be is merged with whatever has no other id.
	full := notesFrom(10, 10, 130, 5)
	wantBetween(t, full, full, 130)
	wantBetween(t, full, notesFrom(10, 10, 130, 6), 130)
	wantBetween(t, full, notesFrom(10, 20, 65, 6), 130)
	for _, id := range []int{1, 10, 11, 650, 655, 1300, 1301, impl.MaxId} {
		for _, version := range []int{1, 5, 6, impl.MaxNum} {
			ids := 131
			if impl.NoteOf(full, id) > 0 {
				ids = 130
			}
			wantBetween(t, full, versionsOf(id, version), ids)
		}
	}
}

// wantBetween asks either way round of two lists that have so many ids between them (-1: however many).
func wantBetween(t *testing.T, a, b []impl.Note, ids int) {
	t.Helper()
	for range 2 {
		x := noteBookOf(a)
		x.joins(noteBookOf(b))
		if ids >= 0 && len(x) != ids {
			t.Errorf("%d notes and %d have %d ids in place of %d", len(a), len(b), len(x), ids)
		}
		got, may := impl.MergeNotes(a, b), notesRight(a) && notesRight(b) && len(x) <= 130
		if may && !slices.Equal(got, notesAs(x.clock())) || !may && !slices.Equal(got, a) {
			t.Errorf("MergeNotes of %d notes and %d is %s", len(a), len(b), tellNotes(got))
		}
		if notesRight(b) && impl.Covers(got, b) != (may || coversThere(a, b)) || impl.Covers(a, b) != coversThere(a, b) {
			t.Errorf("Covers of %d notes and %d", len(a), len(b))
		}
		a, b = b, a
	}
}

// A noteRun is of several that learn notes, beside a book of each.
type noteRun struct {
	dice
	lists [6][]impl.Note
	books [6]clockBook
	ids   int
}

// full counts what was not told, as there may be no more notes.
func (x *noteRun) step(t *testing.T) (full int) {
	t.Helper()
	at := x.below(6)
	was, told := x.lists[at], clockBook{}
	if x.below(3) == 0 {
		other := x.below(6)
		x.lists[at], told = impl.MergeNotes(was, x.lists[other]), x.books[other]
	} else {
		id, version := 1+x.below(x.ids), 1+x.below(9)
		x.lists[at], told[id] = impl.AddNote(was, id, version), version
	}
	then := maps.Clone(x.books[at])
	then.joins(told)
	if len(then) <= impl.MaxNotes {
		x.books[at] = then
	} else {
		full = 1
	}
	if now := x.lists[at]; !slices.Equal(now, notesAs(x.books[at].clock())) || !impl.NotesOk(now) || !impl.Covers(now, was) {
		t.Fatalf("%q is %q in place of %q", tellNotes(was), tellNotes(now), tellNotes(notesAs(x.books[at].clock())))
	}
	return full
}

// P22, too: whatever several learn, in whatever order, is as books without any order have it; none forgets what it knew.
func TestNotesAreAsBooksOfThem(t *testing.T) {
	t.Parallel()
	var counts [2]int
	full := 0
	for seed := range 40 {
		x := noteRun{dice: dice(2200 + seed), ids: []int{9, 60, impl.MaxNotes, impl.MaxNotes + 2, 400}[seed%5]}
		for i := range x.books {
			x.books[i] = clockBook{}
		}
		for range 400 {
			full += x.step(t)
		}
		for i, a := range x.lists {
			for k, b := range x.lists {
				covers := x.books[i].knows(x.books[k])
				if impl.Covers(a, b) != covers {
					t.Fatalf("Covers of %q and %q is %v", tellNotes(a), tellNotes(b), !covers)
				}
				counts[flagVal(covers).N]++
			}
		}
	}
	if counts[0] < 400 || counts[1] < 240 || full < 400 {
		t.Errorf("%v, %d", counts, full)
	}
}

// P33: what is far too much is answered, too.
func TestNotesThatAreFarTooMany(t *testing.T) {
	const many = 1 << 18
	for _, wrong := range [][]impl.Note{notesFrom(1, 2, many, 1), make([]impl.Note, many), notesFrom(math.MinInt, 1, many, math.MinInt), notesFrom(5, 0, many, 7)} {
		few := versionsOf(1, 5, 3, 5)
		if got := impl.AddNote(wrong, 2, 9); !slices.Equal(got, wrong) {
			t.Error("AddNote")
		}
		if !slices.Equal(impl.MergeNotes(wrong, few), wrong) || !slices.Equal(impl.MergeNotes(few, wrong), few) || !slices.Equal(impl.MergeNotes(wrong, wrong), wrong) {
			t.Error("MergeNotes")
		}
		if impl.Covers(wrong, few) || impl.Covers(few, wrong) || impl.Covers(wrong, wrong) || impl.Covers(wrong, nil) || impl.Covers(nil, wrong) {
			t.Error("Covers")
		}
		last := wrong[many-1]
		if first := slices.IndexFunc(wrong, func(x impl.Note) bool { return x.Id == last.Id }); impl.NoteOf(wrong, last.Id) != wrong[first].Version {
			t.Error("NoteOf")
		}
	}
}

func noteAsks() []listAsk[impl.Note] {
	back := func(a, b []impl.Note) []impl.Note { return impl.MergeNotes(b, a) }
	others := func(a, b []impl.Note) []impl.Note {
		return []impl.Note{{Id: impl.NoteOf(a, 1) + impl.NoteOf(b, 8)}, {Id: flagVal(impl.Covers(a, b)).N}}
	}
	list := []listAsk[impl.Note]{{"MergeNotes", impl.MergeNotes}, {"MergeNotes, the other way round", back}, {"NoteOf and Covers", others}}
	for _, x := range versionsOf(0, 1, 1, 1, 2, 9, 3, 0, 3, 7, 40, 8, 40, 9, impl.MaxId, impl.MaxNum, impl.MaxId+1, 1, 2, impl.MaxNum+1) {
		add := func(a, _ []impl.Note) []impl.Note { return impl.AddNote(a, x.Id, x.Version) }
		list = append(list, listAsk[impl.Note]{fmt.Sprintf("AddNote of %d.%d", x.Id, x.Version), add})
	}
	return list
}

// notesForMemory: right and wrong ones, and as many as there may be.
func notesForMemory() []string {
	list := []string{"", "1.1", "1.5 2.7", "2.5 7.1 40.8", "2.16777215 40.16777215", "1.1 1000000.16777215", "3.9 4.9 5.9", tellNotes(notesFrom(2, 3, impl.MaxNotes, 4))}
	return append(list, wrongNotes()...)
}

// P33: neither a list nor the spare room behind it is written, and an answer shares memory with none, also where it is as it was.
func TestNotesWriteNothing(t *testing.T) {
	t.Parallel()
	for _, x := range noteAsks() {
		for _, a := range notesForMemory() {
			for _, b := range notesForMemory() {
				x.wantUnwritten(t, notesOf(a), notesOf(b), impl.Note{Id: 8, Version: 77}, impl.Note{Id: 55, Version: 55})
			}
		}
	}
}

func TestNotesOfOneList(t *testing.T) {
	for _, x := range noteAsks() {
		x.wantOfPieces(t, notesOf("1.5 2.7 3.9 4.1 5.2"), impl.Note{Id: 55, Version: 55})
	}
}

// tellNoteAsks tells all that the chapter's functions answer of a list.
func tellNoteAsks(told string) string {
	a := notesOf(told)
	var parts []string
	for _, id := range []int{0, 1, 2, 8, 40, impl.MaxId, impl.MaxId + 1} {
		parts = append(parts, fmt.Sprint(impl.NoteOf(a, id)), tellNotes(impl.AddNote(a, id, 6)))
	}
	for _, other := range []string{"", "1.1", "1.5 2.7", "2.5 7.1 40.8", "2.1 1.1", "1.16777215 1000000.16777215"} {
		b := notesOf(other)
		parts = append(parts, tellNotes(impl.MergeNotes(a, b)), tellNotes(impl.MergeNotes(b, a)), fmt.Sprint(impl.Covers(a, b), impl.Covers(b, a)))
	}
	return strings.Join(parts, "; ")
}

// P33: no call leaves anything behind that a later one shows.
func TestNotesAreToldAgain(t *testing.T) {
	wantToldAgain(t, notesForMemory(), tellNoteAsks)
}
