package tests

import (
	"bytes"
	"math"
	"slices"
	"testing"

	"loop.example/g00283/impl"
)

// kindHas is what the document says a kind of message has beside its Id.
type kindHas struct {
	kind                              int
	who, class, version, cells, notes bool
}

func kindsOfMsg() []kindHas {
	return []kindHas{
		{kind: impl.MgFetch},
		{kind: impl.MgObject, class: true, version: true, cells: true},
		{kind: impl.MgDiff, cells: true},
		{kind: impl.MgTaken, version: true},
		{kind: impl.MgLock, who: true},
		{kind: impl.MgGrant, who: true, notes: true},
		{kind: impl.MgFree, who: true, notes: true},
		{kind: impl.MgStart, who: true, notes: true},
		{kind: impl.MgJoin, who: true},
		{kind: impl.MgJoined, who: true, notes: true},
	}
}

func word(at, n int) impl.Cell { return impl.Cell{At: at, Val: impl.Val{N: n}} }

func ref(at, n int) impl.Cell { return impl.Cell{At: at, Val: impl.Val{Ref: true, N: n}} }

func someCells() []impl.Cell { return []impl.Cell{word(0, -1), ref(2, 5), word(7, 300)} }

func someNotes() []impl.Note { return []impl.Note{{Id: 1, Version: 1}, {Id: 300, Version: 128}} }

// leastMsg has as little as a kind may have, fullMsg some of all.
func leastMsg(k kindHas) impl.Msg {
	m := impl.Msg{Kind: k.kind, Id: 1}
	if k.who {
		m.Who = 1
	}
	return m
}

func fullMsg(k kindHas) impl.Msg {
	m := impl.Msg{Kind: k.kind, Id: 17}
	if k.who {
		m.Who = 33
	}
	if k.class {
		m.Class = 200
	}
	if k.version {
		m.Version = 1000
	}
	if k.cells {
		m.Cells = someCells()
	}
	if k.notes {
		m.Notes = someNotes()
	}
	return m
}

func manyCells(n int) []impl.Cell {
	var list []impl.Cell
	for i := range n {
		if i%2 == 0 {
			list = append(list, word(i, -i*1000))
		} else {
			list = append(list, ref(i, i*1000))
		}
	}
	return list
}

func manyNotes(n int) []impl.Note {
	var list []impl.Note
	for i := range n {
		list = append(list, impl.Note{Id: impl.MaxId - 7*(n-1-i), Version: 1 + i*999})
	}
	return list
}

// rawMsg writes a message down whether it is right or not.
func rawMsg(m impl.Msg) []byte {
	var out []byte
	num := func(n int) { out = append(out, impl.PutNum(n)...) }
	for _, n := range []int{m.Kind, m.Id, m.Who, m.Class, m.Version, len(m.Cells)} {
		num(n)
	}
	for _, c := range m.Cells {
		num(c.At)
		if c.Val.Ref {
			num(1)
			num(c.Val.N)
		} else {
			num(0)
			out = append(out, impl.PutWord(c.Val.N)...)
		}
	}
	num(len(m.Notes))
	for _, x := range m.Notes {
		num(x.Id)
		num(x.Version)
	}
	return out
}

// canBeWritten: each number of m has bytes, so that rawMsg of it is a message's shape.
func canBeWritten(m impl.Msg) bool {
	list := []int{m.Kind, m.Id, m.Who, m.Class, m.Version}
	for _, c := range m.Cells {
		list = append(list, c.At)
		if c.Val.Ref {
			list = append(list, c.Val.N)
		} else if len(impl.PutWord(c.Val.N)) == 0 {
			return false
		}
	}
	for _, x := range m.Notes {
		list = append(list, x.Id, x.Version)
	}
	return !slices.ContainsFunc(list, func(n int) bool { return len(impl.PutNum(n)) == 0 })
}

func sameMsg(a, b impl.Msg) bool {
	return a.Kind == b.Kind && a.Id == b.Id && a.Who == b.Who && a.Class == b.Class && a.Version == b.Version &&
		slices.Equal(a.Cells, b.Cells) && slices.Equal(a.Notes, b.Notes)
}

// wantNoMsg: beside the false stands the zero value, no part of what was read ahead of the fault.
func wantNoMsg(t *testing.T, b []byte) {
	t.Helper()
	if m, ok := impl.MsgOf(b); ok || !sameMsg(m, impl.Msg{}) {
		t.Errorf("MsgOf(%v) = %+v, %v; want none", b, m, ok)
	}
}

func wantMsg(t *testing.T, m impl.Msg, right bool) {
	t.Helper()
	if got := impl.MsgOk(m); got != right {
		t.Errorf("MsgOk(%+v) = %v", m, got)
	}
	b := impl.MsgBytes(m)
	if !right {
		if len(b) != 0 {
			t.Errorf("MsgBytes(%+v) = %v", m, b)
		}
		if canBeWritten(m) {
			wantNoMsg(t, rawMsg(m))
		}
		return
	}
	if want := rawMsg(m); !bytes.Equal(b, want) {
		t.Errorf("MsgBytes(%+v) = %v, want %v", m, b, want)
	}
	if got, ok := impl.MsgOf(b); !ok || !sameMsg(got, m) {
		t.Errorf("MsgOf(MsgBytes(%+v)) = %+v, %v", m, got, ok)
	}
}

// wantTurned asks of a message of each kind, with much and with little, whether it is right with one part turned.
func wantTurned(t *testing.T, right func(kindHas) bool, turn func(*impl.Msg)) {
	t.Helper()
	for _, k := range kindsOfMsg() {
		for _, m := range []impl.Msg{leastMsg(k), fullMsg(k)} {
			turn(&m)
			wantMsg(t, m, right(k))
		}
	}
}

// rightMsgs: messages of each kind, with each part that it has at its edges.
func rightMsgs() []impl.Msg {
	var list []impl.Msg
	for _, k := range kindsOfMsg() {
		list = append(list, leastMsg(k), fullMsg(k))
		for _, id := range []int{2, 127, 128, 16384, impl.MaxId} {
			m := fullMsg(k)
			m.Id = id
			list = append(list, m)
		}
		if k.cells {
			for n := range impl.MaxFields + 1 {
				m := fullMsg(k)
				m.Cells = manyCells(n)
				list = append(list, m)
			}
		}
		if k.notes {
			for _, n := range []int{0, 1, 2, 127, 128, impl.MaxNotes} {
				m := fullMsg(k)
				m.Notes = manyNotes(n)
				list = append(list, m)
			}
		}
	}
	return list
}

func TestMsgConstants(t *testing.T) {
	for i, k := range []int{
		impl.MgFetch, impl.MgObject, impl.MgDiff, impl.MgTaken, impl.MgLock,
		impl.MgGrant, impl.MgFree, impl.MgStart, impl.MgJoin, impl.MgJoined,
	} {
		if k != i+1 {
			t.Errorf("kind %d has the number %d", i+1, k)
		}
	}
	if impl.MaxNodes != 4 || impl.MaxId != 1000000 || impl.MaxFields != 8 || impl.MaxNotes != 130 {
		t.Error("limits")
	}
}

func TestValOk(t *testing.T) {
	for _, c := range []struct {
		n         int
		word, ref bool
	}{
		{0, true, true}, {1, true, true}, {-1, true, false}, {impl.MaxId, true, true}, {impl.MaxId + 1, true, false},
		{impl.MaxNum, true, false}, {greatestWord, true, false}, {leastWord, true, false},
		{greatestWord + 1, false, false}, {leastWord - 1, false, false},
		{1 << 32, false, false}, {1<<32 + 1, false, false}, {-1 << 32, false, false}, {math.MaxInt, false, false}, {math.MinInt, false, false},
	} {
		if got := impl.ValOk(impl.Val{N: c.n}); got != c.word {
			t.Errorf("ValOk of the word %d = %v", c.n, got)
		}
		if got := impl.ValOk(impl.Val{Ref: true, N: c.n}); got != c.ref {
			t.Errorf("ValOk of the object %d = %v", c.n, got)
		}
	}
}

// noteCase: a list, and whether it is one of notes.
type noteCase struct {
	list []impl.Note
	want bool
}

func noteCases() []noteCase {
	many := manyNotes(impl.MaxNotes)
	// The last one of many counts as much as the first.
	alike, back, old := slices.Clone(many), slices.Clone(many), slices.Clone(many)
	alike[129].Id = alike[128].Id
	back[0].Id = back[1].Id + 1
	old[129].Version = 0
	return []noteCase{
		{nil, true}, {[]impl.Note{}, true},
		{[]impl.Note{{Id: 1, Version: 1}}, true}, {[]impl.Note{{Id: impl.MaxId, Version: impl.MaxNum}}, true},
		{[]impl.Note{{Id: 0, Version: 1}}, false}, {[]impl.Note{{Id: -1, Version: 1}}, false}, {[]impl.Note{{Id: impl.MaxId + 1, Version: 1}}, false},
		{[]impl.Note{{Id: math.MaxInt, Version: 1}}, false}, {[]impl.Note{{Id: math.MinInt, Version: 1}}, false},
		{[]impl.Note{{Id: 1, Version: 0}}, false}, {[]impl.Note{{Id: 1, Version: -1}}, false}, {[]impl.Note{{Id: 1, Version: impl.MaxNum + 1}}, false},
		{[]impl.Note{{Id: 1, Version: math.MaxInt}}, false}, {[]impl.Note{{Id: 1, Version: math.MinInt}}, false}, {[]impl.Note{{}}, false},
		{[]impl.Note{{Id: 1, Version: 9}, {Id: 2, Version: 1}, {Id: 9, Version: 9}}, true},
		{[]impl.Note{{Id: 2, Version: 1}, {Id: 1, Version: 2}}, false}, {[]impl.Note{{Id: 3, Version: 1}, {Id: 3, Version: 1}}, false},
		{[]impl.Note{{Id: 3, Version: 1}, {Id: 3, Version: 2}}, false}, {[]impl.Note{{Id: 1, Version: 1}, {Id: 5, Version: 1}, {Id: 4, Version: 1}}, false},
		{[]impl.Note{{Id: 1, Version: 1}, {Id: 2, Version: 1}, {Id: 1, Version: 1}}, false}, {[]impl.Note{{Id: 1, Version: 1}, {Id: 2, Version: 0}}, false},
		{many, true}, {manyNotes(impl.MaxNotes + 1), false}, {alike, false}, {back, false}, {old, false},
	}
}

func TestNotesOk(t *testing.T) {
	for _, c := range noteCases() {
		if got := impl.NotesOk(c.list); got != c.want {
			t.Errorf("NotesOk(%v) = %v", c.list, got)
		}
	}
}

func TestMsgOfEachKind(t *testing.T) {
	for _, m := range rightMsgs() {
		wantMsg(t, m, true)
	}
}

func TestKindsThatThereAreNoneOf(t *testing.T) {
	for _, kind := range []int{0, -1, 11, 12, 128, 257, 1<<32 + 1, impl.MaxNum, math.MaxInt, math.MinInt} {
		wantTurned(t, func(kindHas) bool { return false }, func(m *impl.Msg) { m.Kind = kind })
		wantMsg(t, impl.Msg{Kind: kind, Id: 1}, false)
		wantMsg(t, impl.Msg{Kind: kind}, false)
	}
	wantMsg(t, impl.Msg{}, false)
}

// An object's number, where it stands at 0, at both ends and beyond.
func numberEdges() map[int]bool {
	return map[int]bool{
		0: false, 1: true, 2: true, impl.MaxId - 1: true, impl.MaxId: true, impl.MaxId + 1: false, impl.MaxNum: false,
		impl.MaxNum + 1: false, 1<<32 + 1: false, -1: false, -impl.MaxId: false, math.MaxInt: false, math.MinInt: false,
	}
}

func TestMsgIds(t *testing.T) {
	for n, is := range numberEdges() {
		wantTurned(t, func(kindHas) bool { return is }, func(m *impl.Msg) { m.Id = n })
	}
}

func TestMsgWho(t *testing.T) {
	for n, is := range numberEdges() {
		// Who is a number where the kind has one, and else 0 and nothing but 0.
		wantTurned(t, func(k kindHas) bool { return k.who && is || !k.who && n == 0 }, func(m *impl.Msg) { m.Who = n })
	}
}

func TestMsgClass(t *testing.T) {
	for n, is := range map[int]bool{
		-1: false, 0: true, 1: true, 127: true, 128: true, 254: true, 255: true, 256: false, 511: false,
		1 << 32: false, math.MaxInt: false, math.MinInt: false,
	} {
		wantTurned(t, func(k kindHas) bool { return k.class && is || n == 0 }, func(m *impl.Msg) { m.Class = n })
	}
}

func TestMsgVersion(t *testing.T) {
	for n, is := range map[int]bool{
		-1: false, 0: true, 1: true, impl.MaxId + 1: true, impl.MaxNum - 1: true, impl.MaxNum: true, impl.MaxNum + 1: false,
		1 << 32: false, math.MaxInt: false, math.MinInt: false,
	} {
		wantTurned(t, func(k kindHas) bool { return k.version && is || n == 0 }, func(m *impl.Msg) { m.Version = n })
	}
}

func TestMsgCells(t *testing.T) {
	for _, c := range []struct {
		list []impl.Cell
		want bool
	}{
		{[]impl.Cell{word(0, 0)}, true}, {[]impl.Cell{word(impl.MaxFields-1, 0)}, true},
		{[]impl.Cell{word(impl.MaxFields, 0)}, false}, {[]impl.Cell{word(-1, 0)}, false},
		{[]impl.Cell{ref(math.MaxInt, 1)}, false}, {[]impl.Cell{ref(math.MinInt, 1)}, false},
		{[]impl.Cell{word(0, leastWord), word(1, greatestWord)}, true},
		{[]impl.Cell{word(0, leastWord-1)}, false}, {[]impl.Cell{word(0, greatestWord+1)}, false}, {[]impl.Cell{word(3, 1<<32)}, false},
		{[]impl.Cell{ref(0, 0), ref(1, 1), ref(2, impl.MaxId)}, true},
		{[]impl.Cell{ref(0, -1)}, false}, {[]impl.Cell{ref(0, impl.MaxId+1)}, false}, {[]impl.Cell{word(0, 1), ref(1, impl.MaxNum)}, false},
		{[]impl.Cell{word(0, 1), word(0, 1)}, false}, {[]impl.Cell{word(0, 1), word(0, 2)}, false}, {[]impl.Cell{word(4, 0), ref(4, 0)}, false},
		{[]impl.Cell{word(1, 0), word(0, 0)}, false}, {[]impl.Cell{word(0, 0), word(5, 0), word(3, 0)}, false},
		{[]impl.Cell{word(0, 0), word(5, 0), word(0, 0)}, false}, {[]impl.Cell{word(7, 9), word(6, 9)}, false},
		{[]impl.Cell{word(0, 0), word(5, 0), word(8, 0)}, false},
		{manyCells(impl.MaxFields), true}, {append(manyCells(impl.MaxFields), word(impl.MaxFields, 0)), false},
		{append(manyCells(impl.MaxFields), word(impl.MaxFields-1, 0)), false}, {append([]impl.Cell{word(0, 0)}, manyCells(impl.MaxFields)...), false},
	} {
		wantTurned(t, func(k kindHas) bool { return k.cells && c.want }, func(m *impl.Msg) { m.Cells = slices.Clone(c.list) })
	}
	for _, none := range [][]impl.Cell{nil, {}, make([]impl.Cell, 0, 4)} {
		wantTurned(t, func(kindHas) bool { return true }, func(m *impl.Msg) { m.Cells = none })
	}
}

func TestMsgNotes(t *testing.T) {
	for _, c := range noteCases() {
		right := func(k kindHas) bool { return len(c.list) == 0 || k.notes && c.want }
		wantTurned(t, right, func(m *impl.Msg) { m.Notes = slices.Clone(c.list) })
	}
	for n, is := range numberEdges() {
		right := func(k kindHas) bool { return k.notes && is }
		wantTurned(t, right, func(m *impl.Msg) { m.Notes = []impl.Note{{Id: n, Version: 7}} })
	}
	wantTurned(t, func(kindHas) bool { return true }, func(m *impl.Msg) { m.Notes = make([]impl.Note, 0, 4) })
}

// All that one kind has, told as another kind: right only where that has each of these parts, and needs no Who beside them.
func TestPartsOfAnotherKind(t *testing.T) {
	for _, from := range kindsOfMsg() {
		for _, to := range kindsOfMsg() {
			m := fullMsg(from)
			m.Kind = to.kind
			lost := from.class && !to.class || from.version && !to.version || from.cells && !to.cells || from.notes && !to.notes
			wantMsg(t, m, from.who == to.who && !lost)
		}
	}
	// Cells and Notes together are of no kind.
	wantTurned(t, func(kindHas) bool { return false }, func(m *impl.Msg) { m.Cells, m.Notes = someCells(), someNotes() })
}

func TestMsgBytes(t *testing.T) {
	for _, c := range []struct {
		m    impl.Msg
		want string
	}{
		{impl.Msg{Kind: impl.MgFetch, Id: 1}, "\x01\x01\x00\x00\x00\x00\x00"},
		{impl.Msg{Kind: impl.MgFetch, Id: impl.MaxId}, "\x01\xc0\x84\x3d\x00\x00\x00\x00\x00"},
		{impl.Msg{Kind: impl.MgObject, Id: 17, Class: 255, Version: impl.MaxNum, Cells: []impl.Cell{word(0, -1), ref(2, 5), ref(3, 0), word(7, leastWord)}},
			"\x02\x11\x00\xff\x01\xff\xff\xff\x07\x04\x00\x00\xff\xff\xff\xff\x02\x01\x05\x03\x01\x00\x07\x00\x00\x00\x00\x80\x00"},
		{impl.Msg{Kind: impl.MgObject, Id: 17}, "\x02\x11\x00\x00\x00\x00\x00"},
		{impl.Msg{Kind: impl.MgDiff, Id: 128, Cells: []impl.Cell{ref(6, impl.MaxId), word(7, greatestWord)}},
			"\x03\x80\x01\x00\x00\x00\x02\x06\x01\xc0\x84\x3d\x07\x00\xff\xff\xff\x7f\x00"},
		{impl.Msg{Kind: impl.MgTaken, Id: 5, Version: 300}, "\x04\x05\x00\x00\xac\x02\x00\x00"},
		{impl.Msg{Kind: impl.MgLock, Id: 5, Who: 300}, "\x05\x05\xac\x02\x00\x00\x00\x00"},
		{impl.Msg{Kind: impl.MgGrant, Id: 5, Who: 6, Notes: []impl.Note{{Id: 1, Version: 2}, {Id: 300, Version: impl.MaxNum}}},
			"\x06\x05\x06\x00\x00\x00\x02\x01\x02\xac\x02\xff\xff\xff\x07"},
		{impl.Msg{Kind: impl.MgFree, Id: 5, Who: 6, Notes: []impl.Note{{Id: 128, Version: 1}}}, "\x07\x05\x06\x00\x00\x00\x01\x80\x01\x01"},
		{impl.Msg{Kind: impl.MgStart, Id: 5, Who: 6}, "\x08\x05\x06\x00\x00\x00\x00"},
		{impl.Msg{Kind: impl.MgJoin, Id: 6, Who: 5}, "\x09\x06\x05\x00\x00\x00\x00"},
		{impl.Msg{Kind: impl.MgJoined, Id: 6, Who: 5, Notes: []impl.Note{{Id: 9, Version: 8}}}, "\x0a\x06\x05\x00\x00\x00\x01\x09\x08"},
	} {
		if got := string(impl.MsgBytes(c.m)); got != c.want {
			t.Errorf("MsgBytes(%+v) = %q, want %q", c.m, got, c.want)
		}
		if got, ok := impl.MsgOf([]byte(c.want)); !ok || !sameMsg(got, c.m) {
			t.Errorf("MsgOf(%q) = %+v, %v; want %+v", c.want, got, ok, c.m)
		}
	}
}

func TestMsgBytesTellApart(t *testing.T) {
	list := rightMsgs()
	for i, a := range list {
		for _, b := range list[i+1:] {
			if bytes.Equal(impl.MsgBytes(a), impl.MsgBytes(b)) != sameMsg(a, b) {
				t.Fatalf("MsgBytes of %+v and of %+v", a, b)
			}
		}
	}
}

func TestMsgCutShortOrGoingOn(t *testing.T) {
	for _, m := range rightMsgs() {
		b := impl.MsgBytes(m)
		for cut := range b {
			wantNoMsg(t, b[:cut:cut])
			// What stands in the spare room does not count.
			wantNoMsg(t, b[:cut])
		}
		for _, more := range [][]byte{{0}, {1}, {128}, {255}, b} {
			wantNoMsg(t, append(bytes.Clone(b), more...))
		}
		wantNoMsg(t, append([]byte{0}, b...))
	}
	wantNoMsg(t, nil)
	wantNoMsg(t, []byte{})
}

func TestMsgOfRefuses(t *testing.T) {
	for _, s := range []string{
		"\x00", "\x01", "\xff", "\x00\x00\x00\x00\x00\x00\x00", "\x01\x00\x00\x00\x00\x00\x00",
		// No shortest number: Kind, Id, Who, Class, Version, how many Cells, how many Notes.
		"\x81\x00\x01\x00\x00\x00\x00\x00", "\x01\x81\x00\x00\x00\x00\x00\x00", "\x01\x01\x80\x00\x00\x00\x00\x00", "\x01\x01\x00\x80\x00\x00\x00\x00",
		"\x01\x01\x00\x00\x80\x00\x00\x00", "\x01\x01\x00\x00\x00\x80\x00\x00", "\x01\x01\x00\x00\x00\x00\x80\x00",
		// Nor in a Cell or a Note.
		"\x03\x01\x00\x00\x00\x01\x82\x00\x00\x05\x00\x00\x00\x00", "\x03\x01\x00\x00\x00\x01\x02\x80\x00\x05\x00\x00\x00\x00",
		"\x03\x01\x00\x00\x00\x01\x02\x81\x00\x05\x00", "\x03\x01\x00\x00\x00\x01\x02\x01\x85\x00\x00",
		"\x06\x01\x01\x00\x00\x00\x01\x81\x00\x01", "\x06\x01\x01\x00\x00\x00\x01\x01\x81\x00",
		// A flag that is neither 0 nor 1, with what would stand behind either.
		"\x03\x01\x00\x00\x00\x01\x02\x02\x05\x00", "\x03\x01\x00\x00\x00\x01\x02\x02\x05\x00\x00\x00\x00", "\x03\x01\x00\x00\x00\x01\x02\x7f\x05\x00",
		"\x03\x01\x00\x00\x00\x01\x02\x81\x01\x05\x00", "\x03\x01\x00\x00\x00\x01\x02\x80\x02\x05\x00\x00\x00\x00",
		// Numbers above MaxNum: Kind, Id, Version, a Note's Version.
		"\x81\x80\x80\x08\x01\x00\x00\x00\x00\x00", "\x01\x81\x80\x80\x08\x00\x00\x00\x00\x00",
		"\x04\x01\x00\x00\x80\x80\x80\x08\x00\x00", "\x06\x01\x01\x00\x00\x00\x01\x01\x80\x80\x80\x08",
		// More of them than there are bytes.
		"\x03\x01\x00\x00\x00\x01\x00", "\x03\x01\x00\x00\x00\xff\xff\xff\x07", "\x03\x01\x00\x00\x00\xff\xff\xff\x07\x00",
		"\x06\x01\x01\x00\x00\x00\x01", "\x06\x01\x01\x00\x00\x00\xff\xff\xff\x07", "\x03\x01\x00\x00\x00\x01\x02\x00\x05\x00\x00",
	} {
		wantNoMsg(t, []byte(s))
	}
	wantNoMsg(t, bytes.Repeat([]byte{1}, 5000))
	wantNoMsg(t, bytes.Repeat([]byte{128}, 5000))
}

// Whatever stands at one byte: what is read is just what is written so.
func TestMsgOfIsJustWhatMsgBytesMakes(t *testing.T) {
	read := 0
	for _, k := range kindsOfMsg() {
		for _, m := range []impl.Msg{leastMsg(k), fullMsg(k)} {
			whole := impl.MsgBytes(m)
			for i := range whole {
				for x := range 256 {
					b := bytes.Clone(whole)
					b[i] = byte(x)
					got, ok := impl.MsgOf(b)
					if !ok {
						wantNoMsg(t, b)
						continue
					}
					read++
					if !impl.MsgOk(got) || !bytes.Equal(rawMsg(got), b) || !bytes.Equal(impl.MsgBytes(got), b) {
						t.Fatalf("MsgOf(%v) = %+v", b, got)
					}
				}
			}
		}
	}
	if read < 1000 {
		t.Errorf("%d read", read)
	}
}

// roomy gives a list with spare room behind it, and the whole of it.
func roomy[T any](list []T, spare T) ([]T, []T) {
	whole := append(slices.Clone(list), spare, spare, spare)
	return whole[:len(list)], whole
}

// P33: neither a message's lists nor the spare room behind them are written.
func TestMessagesWriteNothing(t *testing.T) {
	list := rightMsgs()
	for _, k := range kindsOfMsg() {
		wrong := fullMsg(k)
		wrong.Cells, wrong.Notes = manyCells(impl.MaxFields+1), manyNotes(impl.MaxNotes+1)
		list = append(list, wrong)
		wrong.Cells, wrong.Notes = []impl.Cell{word(3, 1), word(2, 1), word(2, 1)}, []impl.Note{{Id: 3, Version: 1}, {Id: 2}, {Id: 2}}
		list = append(list, wrong)
	}
	for _, m := range list {
		var cells []impl.Cell
		var notes []impl.Note
		m.Cells, cells = roomy(m.Cells, ref(99, 98))
		m.Notes, notes = roomy(m.Notes, impl.Note{Id: 97, Version: 96})
		cellsWere, notesWere := slices.Clone(cells), slices.Clone(notes)
		for _, c := range cells {
			impl.ValOk(c.Val)
		}
		impl.NotesOk(m.Notes)
		impl.MsgOk(m)
		impl.MsgBytes(m)
		if !slices.Equal(cells, cellsWere) || !slices.Equal(notes, notesWere) {
			t.Fatalf("%+v is written into", m)
		}
		b, whole := roomy(rawMsg(m), 9)
		were := bytes.Clone(whole)
		for end := range len(b) + 1 {
			impl.MsgOf(b[:end])
		}
		if !bytes.Equal(whole, were) {
			t.Fatalf("the bytes of %+v are written into", m)
		}
	}
}

func TestMessagesAreNewMemory(t *testing.T) {
	for _, m := range rightMsgs() {
		b := impl.MsgBytes(m)
		again := impl.MsgBytes(m)
		spoilAll(b, 77)
		if !bytes.Equal(again, rawMsg(m)) || !bytes.Equal(impl.MsgBytes(m), again) {
			t.Fatalf("MsgBytes(%+v) twice shares memory", m)
		}
		first, _ := impl.MsgOf(again)
		second, _ := impl.MsgOf(again)
		spoilAll(first.Cells, ref(5, 5))
		if !slices.Equal(first.Notes, m.Notes) {
			t.Fatalf("Cells and Notes of %+v share memory", m)
		}
		spoilAll(first.Notes, impl.Note{Id: 5, Version: 5})
		spoilAll(again, 77)
		if !sameMsg(second, m) {
			t.Fatalf("MsgOf the bytes of %+v twice shares memory, or shares that of the bytes", m)
		}
	}
}

// spoilAll writes over a list and over the spare room behind it.
func spoilAll[T any](list []T, with T) {
	list = list[:cap(list)]
	for i := range list {
		list[i] = with
	}
}
