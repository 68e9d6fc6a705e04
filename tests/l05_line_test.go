package tests

import (
	"bytes"
	"math"
	"slices"
	"testing"

	"loop.example/g00283/impl"
)

// manyMsgs are right, of all kinds in turn, no two alike.
func manyMsgs(n int) []impl.Msg {
	kinds := kindsOfMsg()
	var list []impl.Msg
	for i := range n {
		m := fullMsg(kinds[i%len(kinds)])
		m.Id = i + 1
		list = append(list, m)
	}
	return list
}

func sender(base, many int) impl.Sender { return impl.Sender{Base: base, Queue: manyMsgs(many)} }

func sameSender(a, b impl.Sender) bool {
	return a.Base == b.Base && slices.EqualFunc(a.Queue, b.Queue, sameMsg)
}

func sameLine(a, b impl.Line) bool { return a.Got == b.Got && sameSender(a.Out, b.Out) }

func cloneMsg(m impl.Msg) impl.Msg {
	m.Cells, m.Notes = slices.Clone(m.Cells), slices.Clone(m.Notes)
	return m
}

func cloneSender(s impl.Sender) impl.Sender {
	list := slices.Clone(s.Queue)
	for i, m := range list {
		list[i] = cloneMsg(m)
	}
	return impl.Sender{Base: s.Base, Queue: list}
}

func cloneLine(l impl.Line) impl.Line { return impl.Line{Out: cloneSender(l.Out), Got: l.Got} }

// rawWrap and rawNod write down what is sealed in a packet, whether a line could send it or not.
func rawWrap(number, got int, message []byte) []byte {
	return slices.Concat(impl.PutNum(1), impl.PutNum(number), impl.PutNum(got), message)
}

func rawNod(got int) []byte { return slices.Concat(impl.PutNum(0), impl.PutNum(got)) }

func sealedWrap(number, got int, m impl.Msg) []byte {
	return impl.Seal(rawWrap(number, got, rawMsg(m)))
}

func sealedNod(got int) []byte { return impl.Seal(rawNod(got)) }

// wrongMsgs are not MsgOk, each for one reason.
func wrongMsgs() []impl.Msg {
	fetch := impl.Msg{Kind: impl.MgFetch, Id: 1}
	id, who, cells, kind := fetch, fetch, fetch, fetch
	id.Id, who.Who, cells.Cells, kind.Kind = impl.MaxId+1, 1, someCells(), 11
	notes := impl.Msg{Kind: impl.MgGrant, Id: 1, Who: 1, Notes: manyNotes(impl.MaxNotes + 1)}
	order := impl.Msg{Kind: impl.MgDiff, Id: 1, Cells: []impl.Cell{word(1, 0), word(0, 0)}}
	return []impl.Msg{{}, id, who, cells, kind, notes, order, {Kind: impl.MgFetch, Id: math.MinInt}}
}

// wrongSenders are not SenderOk, each for one reason.
func wrongSenders() []impl.Sender {
	list := []impl.Sender{
		sender(-1, 0), sender(-1, 1), sender(-1, 3), sender(impl.MaxNum+1, 0), sender(impl.MaxNum+1, 2),
		sender(math.MinInt, 2), sender(math.MaxInt, 0), sender(math.MaxInt, 2), sender(1<<32, 1), sender(-1<<32, 1),
		sender(impl.MaxNum, 1), sender(impl.MaxNum-1, 2), sender(impl.MaxNum-impl.MaxQueue+1, impl.MaxQueue),
		sender(0, impl.MaxQueue+1), sender(5, impl.MaxQueue+2),
	}
	for _, m := range wrongMsgs() {
		for at := range 3 {
			s := sender(3, 3)
			s.Queue[at] = m
			list = append(list, s)
		}
		last := sender(0, impl.MaxQueue)
		last.Queue[impl.MaxQueue-1] = m
		list = append(list, last)
	}
	return list
}

// wantSender: want is written down by the test; the answer is right where it is said to be done.
func wantSender(t *testing.T, what string, got, want impl.Sender) {
	t.Helper()
	if !sameSender(got, want) {
		t.Fatalf("%s: %+v, want %+v", what, got, want)
	}
}

func wantQueued(t *testing.T, s impl.Sender, m impl.Msg) impl.Sender {
	t.Helper()
	want := cloneSender(s)
	want.Queue = append(want.Queue, m)
	got, ok := impl.Queue(s, m)
	wantSender(t, "Queue", got, want)
	if !ok || !impl.SenderOk(got) {
		t.Fatalf("Queue(%+v, %+v) = %+v, %v", s, m, got, ok)
	}
	return got
}

func wantNotQueued(t *testing.T, s impl.Sender, m impl.Msg) {
	t.Helper()
	was := cloneSender(s)
	got, ok := impl.Queue(s, m)
	wantSender(t, "Queue refused", got, was)
	if ok {
		t.Fatalf("Queue(%+v, %+v) is true", s, m)
	}
}

func wantForgot(t *testing.T, s impl.Sender, n int, want impl.Sender) {
	t.Helper()
	wantSender(t, "Forget", impl.Forget(s, n), want)
}

func wantPacket(t *testing.T, p impl.Packet, ok bool, from, to int, body []byte) {
	t.Helper()
	want := impl.Packet{From: from, To: to, Bytes: impl.Seal(body)}
	if !ok || !samePacket(p, want) || !impl.NetOk(impl.Net{Size: impl.MaxNodes, List: []impl.Packet{p}}) {
		t.Fatalf("%+v, %v; want %+v", p, ok, want)
	}
}

func wantNoPacket(t *testing.T, p impl.Packet, ok bool) {
	t.Helper()
	if ok || !samePacket(p, impl.Packet{}) {
		t.Fatalf("%+v, %v; want none", p, ok)
	}
}

// wantArrived: the line that is to be, and the message (nil: none).
func wantArrived(t *testing.T, l impl.Line, b []byte, want impl.Line, message *impl.Msg) impl.Line {
	t.Helper()
	got, m, ok := impl.Arrive(l, b)
	came := impl.Msg{}
	if message != nil {
		came = *message
	}
	if !sameLine(got, want) || ok != (message != nil) || !sameMsg(m, came) {
		t.Fatalf("Arrive(%+v, %v) = %+v, %+v, %v; want %+v, %+v", l, b, got, m, ok, want, came)
	}
	return got
}

func wantNothingArrived(t *testing.T, l impl.Line, b []byte) {
	t.Helper()
	wantArrived(t, l, b, cloneLine(l), nil)
}

func TestLineConstants(t *testing.T) {
	if impl.MaxQueue != 40 {
		t.Error("limits")
	}
}

func TestSenderOk(t *testing.T) {
	for _, s := range []impl.Sender{
		{}, {Queue: []impl.Msg{}}, {Base: impl.MaxNum}, sender(0, 1), sender(1, 2), sender(0, impl.MaxQueue), sender(127, impl.MaxQueue-1),
		sender(impl.MaxNum-1, 1), sender(impl.MaxNum-2, 1), sender(impl.MaxNum-impl.MaxQueue, impl.MaxQueue), sender(impl.MaxId+1, 3),
		{Base: 9, Queue: []impl.Msg{manyMsgs(1)[0], manyMsgs(1)[0]}},
	} {
		if !impl.SenderOk(s) {
			t.Errorf("SenderOk(%+v) is false", s)
		}
	}
	for _, s := range wrongSenders() {
		if impl.SenderOk(s) {
			t.Errorf("SenderOk(%+v) is true", s)
		}
	}
	for _, m := range rightMsgs() {
		if !impl.SenderOk(impl.Sender{Queue: []impl.Msg{m}}) {
			t.Errorf("a sender of %+v is none", m)
		}
	}
	// What stands in the spare room is not queued.
	list, _ := roomy(manyMsgs(2), impl.Msg{})
	if !impl.SenderOk(impl.Sender{Queue: list}) {
		t.Error("the spare room counts")
	}
}

func TestQueueBehindAll(t *testing.T) {
	for _, base := range []int{0, 1, 3, 127, impl.MaxNum - impl.MaxQueue} {
		s := impl.Sender{Base: base}
		for _, m := range manyMsgs(impl.MaxQueue) {
			s = wantQueued(t, s, m)
		}
		// Full: one more is refused, whatever it is.
		for _, m := range append(manyMsgs(10), wrongMsgs()...) {
			wantNotQueued(t, s, m)
		}
		// With room again it takes one more, unless the numbers are at an end.
		one := impl.Forget(s, base+1)
		if base+impl.MaxQueue < impl.MaxNum {
			wantQueued(t, one, manyMsgs(1)[0])
		} else {
			wantNotQueued(t, one, manyMsgs(1)[0])
		}
	}
	same := manyMsgs(1)[0]
	wantQueued(t, wantQueued(t, impl.Sender{}, same), same)
}

func TestQueueAtTheGreatestNumbers(t *testing.T) {
	m := manyMsgs(1)[0]
	wantNotQueued(t, impl.Sender{Base: impl.MaxNum}, m)
	wantNotQueued(t, sender(impl.MaxNum-1, 1), m)
	wantNotQueued(t, sender(impl.MaxNum-7, 7), m)
	wantQueued(t, impl.Sender{Base: impl.MaxNum - 1}, m)
	wantQueued(t, sender(impl.MaxNum-7, 6), m)
}

func TestQueueRefuses(t *testing.T) {
	for _, m := range wrongMsgs() {
		for _, s := range []impl.Sender{{}, sender(3, 2), sender(0, impl.MaxQueue-1), sender(impl.MaxNum, 0)} {
			wantNotQueued(t, s, m)
		}
	}
	for _, s := range wrongSenders() {
		for _, m := range append(manyMsgs(2), impl.Msg{}) {
			wantNotQueued(t, s, m)
		}
	}
}

func TestForget(t *testing.T) {
	for _, base := range []int{0, 1, 100, impl.MaxNum - impl.MaxQueue} {
		for _, many := range []int{0, 1, 2, 7, impl.MaxQueue} {
			s := sender(base, many)
			for _, n := range append(edgeNumbers(), base-1, base-2, 0, base) {
				if n > base+many {
					continue
				}
				wantForgot(t, s, n, sender(base, many))
			}
			for gone := range many + 1 {
				want := impl.Sender{Base: base + gone, Queue: manyMsgs(many)[gone:]}
				wantForgot(t, s, base+gone, want)
				// What is forgotten already is not forgotten again, and all at once is as one by one.
				wantForgot(t, impl.Forget(s, base+gone), base, want)
				wantForgot(t, impl.Forget(s, base+gone/2), base+gone, want)
			}
			for _, n := range []int{base + many + 1, base + many + 2, impl.MaxNum + 1, 1 << 32, math.MaxInt - 7, math.MaxInt} {
				wantForgot(t, s, n, sender(base, many))
			}
		}
	}
	wantForgot(t, impl.Sender{Base: impl.MaxNum}, impl.MaxNum, impl.Sender{Base: impl.MaxNum})
	wantForgot(t, sender(impl.MaxNum-1, 1), impl.MaxNum, impl.Sender{Base: impl.MaxNum})
}

func TestForgetOfWhatIsNoSender(t *testing.T) {
	for _, s := range wrongSenders() {
		was := cloneSender(s)
		for _, n := range append(edgeNumbers(), 0, 1, 3, 4, 5, 6, s.Base-1, s.Base, s.Base+1, s.Base+len(s.Queue), impl.MaxNum, impl.MaxNum+1) {
			wantForgot(t, s, n, was)
		}
	}
}

func TestWrapAndNodBytes(t *testing.T) {
	l := impl.Line{Out: impl.Sender{Base: 300, Queue: []impl.Msg{
		{Kind: impl.MgFetch, Id: 7}, {Kind: impl.MgLock, Id: 5, Who: 300}, {Kind: impl.MgDiff, Id: 128, Cells: []impl.Cell{ref(6, impl.MaxId)}},
	}}, Got: impl.MaxNum}
	for i, want := range []string{
		"\x01\xac\x02\xff\xff\xff\x07\x01\x07\x00\x00\x00\x00\x00",
		"\x01\xad\x02\xff\xff\xff\x07\x05\x05\xac\x02\x00\x00\x00\x00",
		"\x01\xae\x02\xff\xff\xff\x07\x03\x80\x01\x00\x00\x00\x01\x06\x01\xc0\x84\x3d\x00",
	} {
		p, ok := impl.Wrap(2, 1, l, i)
		wantPacket(t, p, ok, 2, 1, []byte(want))
	}
	p, ok := impl.Nod(1, 3, l)
	wantPacket(t, p, ok, 1, 3, []byte("\x00\xff\xff\xff\x07"))
	p, ok = impl.Nod(0, 1, impl.Line{})
	wantPacket(t, p, ok, 0, 1, []byte{0, 0})
}

// rightLines: senders and numbers at their edges.
func rightLines() []impl.Line {
	var list []impl.Line
	for _, got := range []int{0, 1, 128, impl.MaxNum - 1, impl.MaxNum} {
		for _, s := range []impl.Sender{
			{}, {Base: impl.MaxNum}, sender(0, 1), sender(4, 3), sender(7, impl.MaxQueue),
			sender(impl.MaxNum-1, 1), sender(impl.MaxNum-impl.MaxQueue, impl.MaxQueue),
		} {
			list = append(list, impl.Line{Out: s, Got: got})
		}
	}
	return list
}

func TestWrapEach(t *testing.T) {
	for _, l := range rightLines() {
		many := len(l.Out.Queue)
		for from := range impl.MaxNodes {
			for i, m := range l.Out.Queue {
				to := (from + i) % impl.MaxNodes
				p, ok := impl.Wrap(from, to, l, i)
				wantPacket(t, p, ok, from, to, rawWrap(l.Out.Base+i, l.Got, rawMsg(m)))
			}
			p, ok := impl.Nod(from, impl.MaxNodes-1-from, l)
			wantPacket(t, p, ok, from, impl.MaxNodes-1-from, rawNod(l.Got))
		}
		for _, i := range append(edgeNumbers(), many, many+1, impl.MaxQueue, impl.MaxNum) {
			p, ok := impl.Wrap(0, 1, l, i)
			wantNoPacket(t, p, ok)
		}
	}
	// What stands in the spare room is no message of the line.
	l := impl.Line{Out: impl.Sender{Queue: manyMsgs(3)[:2]}}
	p, ok := impl.Wrap(0, 1, l, 2)
	wantNoPacket(t, p, ok)
}

// The greatest message that there is has room in a packet.
func TestWrapTheGreatest(t *testing.T) {
	m := impl.Msg{Kind: impl.MgGrant, Id: impl.MaxId, Who: impl.MaxId, Notes: manyNotes(impl.MaxNotes)}
	for i := range m.Notes {
		m.Notes[i].Version = impl.MaxNum
	}
	s := sender(impl.MaxNum-4, 3)
	l := impl.Line{Out: wantQueued(t, s, m), Got: impl.MaxNum}
	p, ok := impl.Wrap(0, 3, l, 3)
	wantPacket(t, p, ok, 0, 3, rawWrap(impl.MaxNum-1, impl.MaxNum, rawMsg(m)))
	wantArrived(t, impl.Line{Got: impl.MaxNum - 1}, p.Bytes, impl.Line{Got: impl.MaxNum}, &m)
}

func wantNothingSent(t *testing.T, from, to int, l impl.Line) {
	t.Helper()
	for i := range len(l.Out.Queue) + 1 {
		p, ok := impl.Wrap(from, to, l, i)
		wantNoPacket(t, p, ok)
	}
	p, ok := impl.Nod(from, to, l)
	wantNoPacket(t, p, ok)
}

func TestWrapAndNodRefuse(t *testing.T) {
	right := impl.Line{Out: sender(4, 3), Got: 2}
	for _, n := range append(edgeNumbers(), impl.MaxNodes, impl.MaxNodes+1, 1<<32+1) {
		wantNothingSent(t, n, 1, right)
		wantNothingSent(t, 1, n, right)
		wantNothingSent(t, n, n, right)
	}
	for _, got := range append(edgeNumbers(), impl.MaxNum+1, impl.MaxNum+2) {
		wantNothingSent(t, 0, 1, impl.Line{Out: sender(4, 3), Got: got})
		wantNothingSent(t, 0, 1, impl.Line{Got: got})
	}
	for _, s := range wrongSenders() {
		wantNothingSent(t, 0, 1, impl.Line{Out: s, Got: 2})
		wantNothingSent(t, 0, 1, impl.Line{Out: s})
	}
}

// Messages queued one behind the other, wrapped, arrived in order, nodded and forgotten.
func TestLineInOrder(t *testing.T) {
	list := manyMsgs(3 * impl.MaxQueue)
	a, b := impl.Line{}, impl.Line{}
	for i, m := range list {
		a.Out = wantQueued(t, a.Out, m)
		p, _ := impl.Wrap(0, 1, a, 0)
		b = wantArrived(t, b, p.Bytes, impl.Line{Got: i + 1}, &m)
		nod, _ := impl.Nod(1, 0, b)
		a = wantArrived(t, a, nod.Bytes, impl.Line{Out: impl.Sender{Base: i + 1}}, nil)
	}
}

// What one side sends tells the other side what it has got: no nod is needed where both send.
func TestWrapNodsToo(t *testing.T) {
	a, b := impl.Line{Out: sender(0, 5)}, impl.Line{Out: sender(0, 4)}
	for i := range 3 {
		p, _ := impl.Wrap(0, 1, a, i)
		b = wantArrived(t, b, p.Bytes, impl.Line{Out: sender(0, 4), Got: i + 1}, &a.Out.Queue[i])
	}
	p, _ := impl.Wrap(1, 0, b, 0)
	want := impl.Line{Out: impl.Sender{Base: 3, Queue: manyMsgs(5)[3:]}, Got: 1}
	a = wantArrived(t, a, p.Bytes, want, &b.Out.Queue[0])
	// Once more it brings no message, and there is nothing more to forget.
	wantArrived(t, a, p.Bytes, want, nil)
}

// A packet that came already, and one that comes too early, bring no message; what they tell of Got counts.
func TestArriveAlreadyAndTooEarly(t *testing.T) {
	a := impl.Line{Out: sender(100, 9), Got: 42}
	for got := 97; got < 113; got++ {
		l := impl.Line{Out: sender(40, 5), Got: got}
		forgot := impl.Sender{Base: 42, Queue: manyMsgs(5)[2:]}
		for i, m := range a.Out.Queue {
			p, _ := impl.Wrap(0, 1, a, i)
			if 100+i == got {
				next := wantArrived(t, l, p.Bytes, impl.Line{Out: forgot, Got: got + 1}, &m)
				wantArrived(t, next, p.Bytes, impl.Line{Out: forgot, Got: got + 1}, nil)
				continue
			}
			wantArrived(t, l, p.Bytes, impl.Line{Out: forgot, Got: got}, nil)
		}
	}
}

// The told Got, from below Base to above Base and how many together, of a nod and of a wrap that arrives or not.
func TestArriveForgets(t *testing.T) {
	m := impl.Msg{Kind: impl.MgTaken, Id: 9, Version: 3}
	for _, s := range []impl.Sender{sender(10, 4), sender(0, 2), {Base: 5}, sender(impl.MaxNum-2, 2), sender(0, impl.MaxQueue)} {
		end := s.Base + len(s.Queue)
		for _, told := range []int{0, s.Base - 1, s.Base, s.Base + 1, end - 1, end, end + 1, end + 2, impl.MaxNum - 1, impl.MaxNum} {
			if told < 0 || told > impl.MaxNum {
				continue
			}
			want := cloneSender(s)
			if told > s.Base && told <= end {
				want = impl.Sender{Base: told, Queue: want.Queue[told-s.Base:]}
			}
			l := impl.Line{Out: s, Got: 7}
			wantArrived(t, l, sealedNod(told), impl.Line{Out: want, Got: 7}, nil)
			wantArrived(t, l, sealedWrap(7, told, m), impl.Line{Out: want, Got: 8}, &m)
			wantArrived(t, l, sealedWrap(6, told, m), impl.Line{Out: want, Got: 7}, nil)
			wantArrived(t, l, sealedWrap(8, told, m), impl.Line{Out: want, Got: 7}, nil)
		}
	}
}

func TestArriveAtTheEdgesOfGot(t *testing.T) {
	m := manyMsgs(1)[0]
	out := sender(3, 2)
	for _, got := range append(edgeNumbers(), 0, 1, 127, impl.MaxNum-1, impl.MaxNum, impl.MaxNum+1) {
		l := impl.Line{Out: out, Got: got}
		forgot := impl.Sender{Base: 4, Queue: out.Queue[1:]}
		wantArrived(t, l, sealedNod(4), impl.Line{Out: forgot, Got: got}, nil)
		for _, number := range []int{0, 1, 126, 127, 128, impl.MaxNum - 2, impl.MaxNum - 1} {
			if number == got {
				wantArrived(t, l, sealedWrap(number, 4, m), impl.Line{Out: forgot, Got: got + 1}, &m)
			} else {
				wantArrived(t, l, sealedWrap(number, 4, m), impl.Line{Out: forgot, Got: got}, nil)
			}
		}
		// No sender has a message with that number: it is not what Wrap makes.
		wantNothingArrived(t, l, sealedWrap(impl.MaxNum, 4, m))
	}
}

// The line itself may be wrong: there is nothing to forget then, but what comes next comes.
func TestArriveAtAWrongSender(t *testing.T) {
	m := manyMsgs(1)[0]
	for _, s := range wrongSenders() {
		l, was := impl.Line{Out: s, Got: 5}, cloneSender(s)
		for _, told := range []int{0, 3, 4, 6, impl.MaxNum} {
			wantNothingArrived(t, l, sealedNod(told))
			wantNothingArrived(t, l, sealedWrap(4, told, m))
			wantArrived(t, l, sealedWrap(5, told, m), impl.Line{Out: was, Got: 6}, &m)
		}
		wantNothingArrived(t, l, nil)
		wantNothingArrived(t, l, impl.Turn(sealedWrap(5, 0, m), 0))
	}
}

func TestArriveEachMessage(t *testing.T) {
	for _, m := range rightMsgs() {
		wantArrived(t, impl.Line{Got: 300}, sealedWrap(300, 0, m), impl.Line{Got: 301}, &m)
	}
	for _, m := range wrongMsgs() {
		wantNothingArrived(t, impl.Line{Out: sender(0, 3), Got: 300}, sealedWrap(300, 2, m))
		wantNothingArrived(t, impl.Line{Out: sender(0, 3), Got: 300}, sealedWrap(299, 2, m))
	}
}

// wrongBodies are sealed, but not just what Wrap and Nod make; each would be right, at Got 5 and three queued from 0 on, without its fault.
func wrongBodies() [][]byte {
	m := rawMsg(manyMsgs(2)[1])
	wrap, nod := rawWrap(5, 2, m), rawNod(2)
	list := [][]byte{
		nil, {0}, {1}, {2}, {128}, {255}, {1, 5}, {1, 5, 2}, {0, 128}, {1, 5, 2, 0},
		// A first number that is neither 0 nor 1, and one that is not the shortest.
		slices.Concat([]byte{2}, wrap[1:]), slices.Concat([]byte{127}, wrap[1:]), slices.Concat([]byte{129, 0}, wrap[1:]), slices.Concat([]byte{129, 1}, wrap[1:]),
		{2, 2}, {127, 2}, {128, 0, 2}, {128, 1, 2}, {255, 255, 255, 7, 2},
		// A nod behind which a message stands, a wrap without one, or with two.
		slices.Concat(nod, m), slices.Concat([]byte{0}, wrap[1:]), slices.Concat([]byte{1, 5, 2}, m, m), slices.Concat([]byte{1, 5}, m), slices.Concat(wrap, nod), slices.Concat(nod, nod), slices.Concat(nod, wrap),
		// Numbers that are not the shortest, or above MaxNum.
		{0, 130, 0}, {0, 128, 128, 128, 8}, slices.Concat([]byte{1, 133, 0, 2}, m), slices.Concat([]byte{1, 5, 130, 0}, m),
		slices.Concat([]byte{1, 133, 128, 128, 8, 2}, m), slices.Concat([]byte{1, 5, 130, 128, 128, 8}, m),
		slices.Concat([]byte{1, 5, 2, 129, 0, 1}, make([]byte, 5)), []byte("what is no packet"), make([]byte, 5000),
	}
	for cut := range wrap {
		list = append(list, wrap[:cut], wrap[cut+1:])
	}
	list = append(list, nod[:1], nod[1:])
	for _, more := range [][]byte{{0}, {1}, {128}, {255}} {
		list = append(list, slices.Concat(wrap, more), slices.Concat(nod, more), slices.Concat(more, wrap), slices.Concat(more, nod))
	}
	return list
}

func TestArriveOfWhatIsNoPacket(t *testing.T) {
	m := manyMsgs(2)[1]
	for _, l := range []impl.Line{{Out: sender(0, 3), Got: 5}, {Out: sender(0, 3)}, {}} {
		for _, b := range wrongBodies() {
			wantNothingArrived(t, l, impl.Seal(b))
			wantNothingArrived(t, l, b)
		}
		for _, b := range [][]byte{sealedWrap(5, 2, m), sealedWrap(4, 2, m), sealedNod(2)} {
			for bit := range 8 * len(b) {
				wantNothingArrived(t, l, impl.Turn(b, bit))
			}
			for cut := range b {
				wantNothingArrived(t, l, b[:cut])
				wantNothingArrived(t, l, b[:cut:cut])
			}
			wantNothingArrived(t, l, append(bytes.Clone(b), 0))
			wantNothingArrived(t, l, slices.Concat(b, b))
			wantNothingArrived(t, l, impl.Seal(b))
		}
	}
}

// letterThere reads what is sealed by the chapters below: what it tells of itself, and whether writing it down again gives the same.
func letterThere(body []byte) (wraps bool, number, told int, m impl.Msg, ok bool) {
	first, at, fine := impl.GetNum(body, 0)
	if fine && first == 1 {
		number, at, fine = impl.GetNum(body, at)
	}
	if fine {
		told, at, fine = impl.GetNum(body, at)
	}
	if !fine || first > 1 {
		return
	}
	if first == 0 {
		return false, 0, told, m, at == len(body)
	}
	m, ok = impl.MsgOf(body[at:])
	return true, number, told, m, ok && number < impl.MaxNum && bytes.Equal(body, rawWrap(number, told, rawMsg(m)))
}

// Whatever stands at one byte: what arrives is just what Wrap and Nod make.
func TestArriveIsOfJustWhatWrapAndNodMake(t *testing.T) {
	t.Parallel()
	came, forgot, nothing := 0, 0, 0
	bodies := [][]byte{rawNod(2), rawNod(300), rawNod(impl.MaxNum)}
	for _, m := range manyMsgs(10) {
		bodies = append(bodies, rawWrap(5, 2, rawMsg(m)), rawWrap(300, 3, rawMsg(m)), rawWrap(impl.MaxNum-1, 1, rawMsg(m)))
	}
	l := impl.Line{Out: sender(0, 3), Got: 5}
	for _, body := range bodies {
		for at := range body {
			for x := range 256 {
				b := bytes.Clone(body)
				b[at] = byte(x)
				wraps, number, told, m, ok := letterThere(b)
				if !ok {
					wantNothingArrived(t, l, impl.Seal(b))
					nothing++
					continue
				}
				want := impl.Line{Out: impl.Forget(l.Out, told), Got: l.Got}
				if !wraps || number != l.Got {
					wantArrived(t, l, impl.Seal(b), want, nil)
					forgot++
					continue
				}
				want.Got++
				wantArrived(t, l, impl.Seal(b), want, &m)
				came++
			}
		}
	}
	if came < 100 || forgot < 100 || nothing < 1000 {
		t.Errorf("%d came, %d told of Got, %d were nothing", came, forgot, nothing)
	}
}

// A side is one end of two lines over a net: what was queued at it, and what has come to it.
type side struct {
	line         impl.Line
	queued, came []impl.Msg
}

func (x *side) queue(m impl.Msg) {
	if s, ok := impl.Queue(x.line.Out, m); ok {
		x.line.Out, x.queued = s, append(x.queued, m)
	}
}

func (x *side) hear(b []byte) {
	line, m, ok := impl.Arrive(x.line, b)
	if x.line = line; ok {
		x.came = append(x.came, m)
	}
}

// wantBeginning: P5, of what has come to b from a; and a still holds all that has not come.
func wantBeginning(t *testing.T, a, b *side) {
	t.Helper()
	n := len(b.came)
	if n > len(a.queued) || !slices.EqualFunc(b.came, a.queued[:n], sameMsg) || b.line.Got != n {
		t.Fatalf("%d came, Got is %d, %d were queued", n, b.line.Got, len(a.queued))
	}
	out := a.line.Out
	if out.Base > n || !impl.SenderOk(out) || !slices.EqualFunc(out.Queue, a.queued[out.Base:], sameMsg) {
		t.Fatalf("of %d queued, %d came, those from %d on are held: %+v", len(a.queued), n, out.Base, out)
	}
}

// badNet is a net between two sides, and how often it did what.
type badNet struct {
	sides                               [2]side
	net                                 impl.Net
	lost, doubled, spoilt, heard, turns int
}

// send posts a packet of one side, one of its first messages, any of them at times, or a nod; a full net loses it.
func (x *badNet) send(from, pick int) {
	l := x.sides[from].line
	p, ok := impl.Nod(from, 1-from, l)
	if many := len(l.Out.Queue); many > 0 && pick%5 > 0 {
		few := min(many, 2)
		if pick%5 == 1 {
			few = many
		}
		p, ok = impl.Wrap(from, 1-from, l, pick/25%few)
	}
	if ok {
		x.net, _ = impl.Post(x.net, p)
	}
}

// take lets packet i arrive, or go lost; what is spoilt turns nothing.
func (x *badNet) take(t *testing.T, i int, lose bool) {
	t.Helper()
	left, p, _ := impl.Take(x.net, i)
	x.net = left
	if lose {
		x.lost++
		return
	}
	to := &x.sides[p.To]
	was, many := cloneLine(to.line), len(to.came)
	to.hear(p.Bytes)
	x.heard++
	if p.Spoilt && (!sameLine(to.line, was) || len(to.came) != many) {
		t.Fatalf("a spoilt packet brought something: %+v, it was %+v", to.line, was)
	}
}

func (x *badNet) step(t *testing.T, pick int) {
	t.Helper()
	many, from, other := len(x.net.List), pick%2, pick/16
	i := other % max(1, many)
	switch kind := pick / 2 % 8; {
	case kind == 0:
		k := kindsOfMsg()[other%10]
		m := fullMsg(k)
		m.Id = 1 + x.turns%impl.MaxId
		x.sides[from].queue(m)
	case many == 0 || kind < 3:
		x.send(from, other)
	case kind == 3:
		twice, _ := impl.Twice(x.net, i)
		x.net = twice
		x.doubled++
	case kind == 4:
		spoilt, ok := impl.Spoil(x.net, i, other%(8*len(x.net.List[i].Bytes)))
		if x.net = spoilt; ok {
			x.spoilt++
		}
	default:
		// Any packet is taken, not the first one: the net turns their order round.
		x.take(t, i, other%4 == 0)
	}
	x.turns++
}

func TestLinesOverABadNet(t *testing.T) {
	t.Parallel()
	for run := range 6 {
		x := badNet{net: impl.Net{Size: 2}}
		seed := run + 1
		for range 4000 {
			seed = (seed*1103515245 + 12345) % (1 << 31)
			x.step(t, seed>>8)
			wantBeginning(t, &x.sides[0], &x.sides[1])
			wantBeginning(t, &x.sides[1], &x.sides[0])
		}
		if x.lost < 100 || x.doubled < 100 || x.spoilt < 50 || x.heard < 300 || min(len(x.sides[0].came), len(x.sides[1].came)) < 20 {
			t.Errorf("run %d: %d lost, %d doubled, %d spoilt, %d heard; %d and %d came", run, x.lost, x.doubled, x.spoilt, x.heard, len(x.sides[0].came), len(x.sides[1].came))
		}
		x.finish(t)
	}
}

// finish lets all arrive that is on its way, latest first, and sends what is held until nothing is: then all has come.
func (x *badNet) finish(t *testing.T) {
	t.Helper()
	for range 2*impl.MaxQueue + 4 {
		for len(x.net.List) > 0 {
			x.take(t, len(x.net.List)-1, false)
		}
		x.send(0, 1)
		x.send(1, 1)
	}
	for i := range 2 {
		if a, b := &x.sides[i], &x.sides[1-i]; len(b.came) != len(a.queued) || len(a.line.Out.Queue) != 0 {
			t.Errorf("%d of %d came, %d are held", len(b.came), len(a.queued), len(a.line.Out.Queue))
		}
	}
}

// roomyMsg is a message with spare room behind its lists.
func roomyMsg(m impl.Msg) impl.Msg {
	m.Cells, _ = roomy(m.Cells, ref(99, 98))
	m.Notes, _ = roomy(m.Notes, impl.Note{Id: 97, Version: 96})
	return m
}

// roomySender has spare room behind all of its lists; the spare messages have lists of their own.
func roomySender(s impl.Sender) impl.Sender {
	var list []impl.Msg
	for _, m := range s.Queue {
		list = append(list, roomyMsg(m))
	}
	for range 3 {
		list = append(list, roomyMsg(impl.Msg{Kind: 95, Cells: someCells(), Notes: someNotes()}))
	}
	return impl.Sender{Base: s.Base, Queue: list[:len(s.Queue)]}
}

// wholeMsgs copies a list of messages up to the end of its spare room, and so the lists in it.
func wholeMsgs(list []impl.Msg) []impl.Msg {
	out := slices.Clone(list[:cap(list)])
	for i, m := range out {
		out[i].Cells = slices.Clone(m.Cells[:cap(m.Cells)])
		out[i].Notes = slices.Clone(m.Notes[:cap(m.Notes)])
	}
	return out
}

func wholeMsgsSame(a, b []impl.Msg) bool { return slices.EqualFunc(wholeMsgs(a), b, sameMsg) }

// lineLists gathers all lists of senders, messages and packets.
type lineLists struct {
	msgs  [][]impl.Msg
	cells [][]impl.Cell
	notes [][]impl.Note
	bytes [][]byte
}

func (x *lineLists) addSender(s impl.Sender) {
	whole := s.Queue[:cap(s.Queue)]
	x.msgs = append(x.msgs, whole)
	for _, m := range whole {
		x.addMsg(m)
	}
}

func (x *lineLists) addMsg(m impl.Msg) {
	x.cells = append(x.cells, m.Cells[:cap(m.Cells)])
	x.notes = append(x.notes, m.Notes[:cap(m.Notes)])
}

func (x *lineLists) addBytes(b []byte) { x.bytes = append(x.bytes, b[:cap(b)]) }

// marksStay writes another mark into each list: one that has lost its own shares memory with another.
func marksStay[T comparable](lists [][]T, mark func(*T, int)) bool {
	for i, list := range lists {
		for k := range list {
			mark(&list[k], i)
		}
	}
	for i, list := range lists {
		for k := range list {
			was := list[k]
			if mark(&list[k], i); list[k] != was {
				return false
			}
		}
	}
	return true
}

func (x *lineLists) apart() bool {
	fine := marksStay(x.cells, func(c *impl.Cell, i int) { c.Val.N = i }) &&
		marksStay(x.notes, func(n *impl.Note, i int) { n.Version = i }) &&
		marksStay(x.bytes, func(b *byte, i int) { *b = byte(i) })
	for mark, list := range x.msgs {
		for i := range list {
			list[i].Kind = mark
		}
	}
	for mark, list := range x.msgs {
		fine = fine && !slices.ContainsFunc(list, func(m impl.Msg) bool { return m.Kind != mark })
	}
	return fine && len(x.bytes) < 256
}

// A lineAsk is one question to a line, a message and bytes, with the numbers in it already; it adds what is answered.
type lineAsk struct {
	what string
	do   func(l impl.Line, m impl.Msg, b []byte, answer *lineLists)
}

// lineAsks is all that can be asked of a line, with right and wrong numbers.
func lineAsks(l impl.Line) []lineAsk {
	queued := func(s impl.Sender, m impl.Msg, answer *lineLists) {
		got, _ := impl.Queue(s, m)
		answer.addSender(got)
	}
	list := []lineAsk{
		{"SenderOk", func(l impl.Line, _ impl.Msg, _ []byte, _ *lineLists) { impl.SenderOk(l.Out) }},
		{"Queue", func(l impl.Line, m impl.Msg, _ []byte, answer *lineLists) { queued(l.Out, m, answer) }},
		{"Queue refused", func(l impl.Line, m impl.Msg, _ []byte, answer *lineLists) { m.Kind = 0; queued(l.Out, m, answer) }},
		{"Nod", func(l impl.Line, _ impl.Msg, _ []byte, answer *lineLists) {
			p, _ := impl.Nod(0, 1, l)
			answer.addBytes(p.Bytes)
		}},
		{"Arrive", func(l impl.Line, _ impl.Msg, b []byte, answer *lineLists) {
			got, m, _ := impl.Arrive(l, b)
			answer.addSender(got.Out)
			answer.addMsg(m)
		}},
	}
	for i := -1; i <= len(l.Out.Queue)+1; i++ {
		list = append(list,
			lineAsk{"Forget", func(l impl.Line, _ impl.Msg, _ []byte, answer *lineLists) {
				answer.addSender(impl.Forget(l.Out, l.Out.Base+i))
			}},
			lineAsk{"Wrap", func(l impl.Line, _ impl.Msg, _ []byte, answer *lineLists) {
				p, _ := impl.Wrap(0, 1, l, i)
				answer.addBytes(p.Bytes)
			}})
	}
	return list
}

func linesForMemory() []impl.Line {
	list := []impl.Line{{Got: 5}, {Out: sender(0, 1), Got: 5}, {Out: sender(3, 11), Got: 5}, {Out: sender(0, impl.MaxQueue), Got: 5}, {Out: sender(0, 3), Got: -1}}
	for _, s := range wrongSenders() {
		list = append(list, impl.Line{Out: s, Got: 5})
	}
	return list
}

// bytesForMemory: what arrives as the next one, early, as a nod, and as nothing.
func bytesForMemory() [][]byte {
	list := [][]byte{nil, sealedNod(4), sealedNod(impl.MaxNum), impl.Turn(sealedNod(4), 3), impl.Seal([]byte{2, 2})}
	for _, m := range manyMsgs(10)[:6] {
		list = append(list, sealedWrap(5, 4, m), sealedWrap(6, 4, m), sealedWrap(5, 0, m))
	}
	return list
}

// P33: neither a line's lists, nor those of the message, nor the bytes, nor the spare room behind them are written.
func TestLinesWriteNothing(t *testing.T) {
	t.Parallel()
	for _, made := range linesForMemory() {
		l := impl.Line{Out: roomySender(made.Out), Got: made.Got}
		m := roomyMsg(impl.Msg{Kind: impl.MgGrant, Id: 1, Who: 1, Notes: someNotes()})
		were, mWas := wholeMsgs(l.Out.Queue), wholeMsgs([]impl.Msg{m})
		for _, sealed := range bytesForMemory() {
			b, whole := roomy(sealed, 94)
			bWas := bytes.Clone(whole)
			for _, ask := range lineAsks(made) {
				ask.do(l, m, b, &lineLists{})
				if !wholeMsgsSame(l.Out.Queue, were) || !wholeMsgsSame([]impl.Msg{m}, mWas) || !bytes.Equal(whole, bWas) {
					t.Fatalf("%s writes into %+v", ask.what, made)
				}
			}
		}
	}
}

// P33: no answer shares memory with an argument, and no two lists of one answer share any.
func TestLineAnswersAreNewMemory(t *testing.T) {
	t.Parallel()
	for _, made := range linesForMemory() {
		for _, sealed := range bytesForMemory() {
			for _, ask := range lineAsks(made) {
				l := impl.Line{Out: roomySender(made.Out), Got: made.Got}
				m := roomyMsg(impl.Msg{Kind: impl.MgGrant, Id: 1, Who: 1, Notes: someNotes()})
				b, _ := roomy(sealed, 94)
				var all lineLists
				ask.do(l, m, b, &all)
				all.addSender(l.Out)
				all.addMsg(m)
				all.addBytes(b)
				if !all.apart() {
					t.Fatalf("%s of %+v shares memory", ask.what, made)
				}
			}
		}
	}
}

// One message queued twice, and one line asked twice: all answers have memory of their own.
func TestLineAnswersShareNothingWithEachOther(t *testing.T) {
	m := impl.Msg{Kind: impl.MgDiff, Id: 4, Cells: someCells()}
	own := impl.Sender{Queue: []impl.Msg{m, m, m}}
	var all lineLists
	for range 2 {
		queued, _ := impl.Queue(own, m)
		refused, _ := impl.Queue(own, impl.Msg{})
		line, came, ok := impl.Arrive(impl.Line{Out: own}, sealedWrap(0, 1, m))
		nothing, _, _ := impl.Arrive(impl.Line{Out: own}, nil)
		if !ok {
			t.Fatal("it does not arrive")
		}
		for _, s := range []impl.Sender{queued, refused, line.Out, nothing.Out, impl.Forget(own, 1), impl.Forget(own, 0), impl.Forget(own, 9)} {
			all.addSender(s)
		}
		all.addMsg(came)
	}
	if !all.apart() || !slices.Equal(m.Cells, someCells()) {
		t.Error("two answers share memory")
	}
}
