package tests

import (
	"bytes"
	"math"
	"slices"
	"strings"
	"testing"

	"loop.example/g00283/impl"
)

func packet(from, to int, s string) impl.Packet {
	return impl.Packet{From: from, To: to, Bytes: []byte(s)}
}

func spoiltPacket(from, to int, s string) impl.Packet {
	p := packet(from, to, s)
	p.Spoilt = true
	return p
}

// someNet has packets that differ in each part, two that are alike, one without bytes and one that is spoilt.
func someNet() impl.Net {
	return impl.Net{Size: 3, List: []impl.Packet{
		packet(0, 1, "one"), packet(2, 0, "two"), packet(1, 1, ""), spoiltPacket(0, 2, "four"), packet(2, 0, "two"), packet(2, 2, "\x00\xff"),
	}}
}

// manyPackets are right for each Size, no two alike.
func manyPackets(n int) []impl.Packet {
	var list []impl.Packet
	for i := range n {
		list = append(list, impl.Packet{Bytes: []byte{byte(i), byte(i >> 8), 7}, Spoilt: i%5 == 4})
	}
	return list
}

func samePacket(a, b impl.Packet) bool {
	return a.From == b.From && a.To == b.To && a.Spoilt == b.Spoilt && bytes.Equal(a.Bytes, b.Bytes)
}

func sameNet(a, b impl.Net) bool {
	return a.Size == b.Size && slices.EqualFunc(a.List, b.List, samePacket)
}

func cloneNet(n impl.Net) impl.Net {
	list := slices.Clone(n.List)
	for i := range list {
		list[i].Bytes = bytes.Clone(list[i].Bytes)
	}
	return impl.Net{Size: n.Size, List: list}
}

func wantNet(t *testing.T, what string, got, want impl.Net, ok, wantOk bool) {
	t.Helper()
	if !sameNet(got, want) || ok != wantOk {
		t.Fatalf("%s: %v, %v; want %v, %v", what, got, ok, want, wantOk)
	}
}

// wantRefused: beside a false the net is as it was.
func wantRefused(t *testing.T, what string, got, was impl.Net, ok bool) {
	t.Helper()
	wantNet(t, what, got, was, ok, false)
}

func wantPosted(t *testing.T, n impl.Net, p impl.Packet) impl.Net {
	t.Helper()
	want := cloneNet(n)
	want.List = append(want.List, p)
	got, ok := impl.Post(n, p)
	wantNet(t, "Post", got, want, ok, true)
	if !impl.NetOk(got) {
		t.Fatalf("Post is not NetOk: %v", got)
	}
	return got
}

func wantTaken(t *testing.T, n impl.Net, i int) impl.Net {
	t.Helper()
	want := cloneNet(n)
	want.List = slices.Delete(want.List, i, i+1)
	got, p, ok := impl.Take(n, i)
	wantNet(t, "Take", got, want, ok, true)
	if !samePacket(p, n.List[i]) || !impl.NetOk(got) {
		t.Fatalf("Take(%v, %d) took %v", n, i, p)
	}
	return got
}

func wantTwice(t *testing.T, n impl.Net, i int) impl.Net {
	t.Helper()
	want := cloneNet(n)
	want.List = append(want.List, want.List[i])
	got, ok := impl.Twice(n, i)
	wantNet(t, "Twice", got, want, ok, true)
	if !impl.NetOk(got) {
		t.Fatalf("Twice is not NetOk: %v", got)
	}
	return got
}

func wantSpoilt(t *testing.T, n impl.Net, i, bit int) impl.Net {
	t.Helper()
	want := cloneNet(n)
	want.List[i].Bytes[bit/8] ^= 1 << (bit % 8)
	want.List[i].Spoilt = true
	got, ok := impl.Spoil(n, i, bit)
	wantNet(t, "Spoil", got, want, ok, true)
	if !impl.NetOk(got) || !bytes.Equal(got.List[i].Bytes, impl.Turn(n.List[i].Bytes, bit)) {
		t.Fatalf("Spoil(%v, %d, %d) = %v", n, i, bit, got)
	}
	return got
}

func wantNoneTaken(t *testing.T, n impl.Net, i int, was impl.Net) {
	t.Helper()
	got, p, ok := impl.Take(n, i)
	wantRefused(t, "Take", got, was, ok)
	if !samePacket(p, impl.Packet{}) {
		t.Fatalf("Take(%v, %d) took %v", n, i, p)
	}
}

// wrongNets are nets that are not NetOk, each for one reason; some would be right without their last packet.
func wrongNets() []impl.Net {
	long := strings.Repeat("x", impl.MaxBytes+1)
	return []impl.Net{
		{}, {Size: -1}, {Size: impl.MaxNodes + 1}, {Size: math.MaxInt}, {Size: math.MinInt}, {Size: 1<<32 + 1},
		{Size: 0, List: []impl.Packet{packet(0, 0, "a")}}, {Size: impl.MaxNodes + 1, List: []impl.Packet{packet(0, 1, "a")}},
		{Size: 2, List: []impl.Packet{packet(-1, 0, "a")}}, {Size: 2, List: []impl.Packet{packet(0, -1, "a")}},
		{Size: 2, List: []impl.Packet{packet(2, 0, "a")}}, {Size: 2, List: []impl.Packet{packet(0, 2, "a")}},
		{Size: 2, List: []impl.Packet{packet(0, 1, long)}}, {Size: 2, List: []impl.Packet{packet(0, 1, long), packet(0, 1, "a")}},
		{Size: 2, List: []impl.Packet{packet(0, 1, "a"), packet(0, 1, "b"), packet(0, math.MaxInt, "c")}},
		{Size: 2, List: []impl.Packet{packet(0, 1, "a"), packet(math.MinInt, 1, "b"), packet(0, 1, "c")}},
		{Size: 2, List: []impl.Packet{packet(0, 1, "a"), packet(0, 1, "b"), spoiltPacket(0, 1, long)}},
		{Size: 2, List: manyPackets(impl.MaxNet + 1)}, {Size: 2, List: manyPackets(impl.MaxNet + 2)},
	}
}

func edgeNumbers() []int {
	return []int{-1, -2, -8, -64, 1 << 32, -1 << 32, math.MaxInt, math.MaxInt - 7, math.MinInt, math.MinInt + 1}
}

func TestNetConstants(t *testing.T) {
	if impl.MaxNet != 60 || impl.MaxBytes != 4000 {
		t.Error("limits")
	}
}

func TestNetOkSizes(t *testing.T) {
	for size, want := range map[int]bool{
		-1: false, 0: false, 1: true, 2: true, 3: true, impl.MaxNodes: true, impl.MaxNodes + 1: false, 257: false,
		1<<32 + 1: false, math.MaxInt: false, math.MinInt: false,
	} {
		for _, list := range [][]impl.Packet{nil, {}, {packet(0, 0, "")}, manyPackets(3)} {
			if got := impl.NetOk(impl.Net{Size: size, List: list}); got != want {
				t.Errorf("NetOk of Size %d with %d packets = %v", size, len(list), got)
			}
		}
	}
}

func TestNetOkEnds(t *testing.T) {
	for size := 1; size <= impl.MaxNodes; size++ {
		places := append(edgeNumbers(), 0, 1, size-1, size, size+1, impl.MaxNodes-1, impl.MaxNodes, 256)
		for _, from := range places {
			for _, to := range places {
				want := from >= 0 && from < size && to >= 0 && to < size
				one := packet(from, to, "a")
				for _, list := range [][]impl.Packet{{one}, append(manyPackets(4), one), append([]impl.Packet{one}, manyPackets(4)...)} {
					if got := impl.NetOk(impl.Net{Size: size, List: list}); got != want {
						t.Fatalf("NetOk of Size %d with a packet from %d to %d = %v", size, from, to, got)
					}
				}
			}
		}
	}
}

func TestNetOkHowMuch(t *testing.T) {
	for many, want := range map[int]bool{0: true, 1: true, 59: true, impl.MaxNet: true, impl.MaxNet + 1: false, 120: false, 1000: false} {
		if got := impl.NetOk(impl.Net{Size: 1, List: manyPackets(many)}); got != want {
			t.Errorf("NetOk of %d packets = %v", many, got)
		}
	}
	for size, want := range map[int]bool{0: true, 1: true, 3999: true, impl.MaxBytes: true, impl.MaxBytes + 1: false, 8000: false} {
		for _, spoilt := range []bool{false, true} {
			for at := range 3 {
				list := manyPackets(3)
				list[at].Bytes, list[at].Spoilt = make([]byte, size), spoilt
				if got := impl.NetOk(impl.Net{Size: 1, List: list}); got != want {
					t.Errorf("NetOk with %d bytes in packet %d = %v", size, at, got)
				}
			}
		}
	}
	// All that a net may have at once.
	list := manyPackets(impl.MaxNet)
	for i := range list {
		list[i].Bytes = make([]byte, impl.MaxBytes)
	}
	if !impl.NetOk(impl.Net{Size: 1, List: list}) {
		t.Error("NetOk of a full net")
	}
	for _, n := range wrongNets() {
		if impl.NetOk(n) {
			t.Errorf("NetOk(%v)", n)
		}
	}
}

func TestPostBehindAll(t *testing.T) {
	n := impl.Net{Size: 3}
	for _, p := range someNet().List {
		n = wantPosted(t, n, p)
	}
	wantNet(t, "all posted", n, someNet(), true, true)
	for _, p := range []impl.Packet{
		{}, {Bytes: []byte{}}, packet(2, 2, strings.Repeat("m", impl.MaxBytes)), spoiltPacket(0, 0, ""), n.List[1],
	} {
		wantPosted(t, n, p)
	}
}

func TestPostRefuses(t *testing.T) {
	n := someNet()
	for _, at := range append(edgeNumbers(), n.Size, n.Size+1, impl.MaxNodes) {
		for _, p := range []impl.Packet{packet(at, 0, "a"), packet(0, at, "a"), packet(at, at, ""), spoiltPacket(at, 1, "a")} {
			got, ok := impl.Post(n, p)
			wantRefused(t, "Post", got, someNet(), ok)
		}
	}
	for _, size := range []int{impl.MaxBytes + 1, impl.MaxBytes + 2, 70000} {
		got, ok := impl.Post(n, impl.Packet{Bytes: make([]byte, size)})
		wantRefused(t, "Post", got, someNet(), ok)
	}
	for size := 1; size <= impl.MaxNodes; size++ {
		empty := impl.Net{Size: size}
		wantPosted(t, empty, packet(size-1, size-1, "a"))
		got, ok := impl.Post(empty, packet(size, 0, "a"))
		wantRefused(t, "Post", got, empty, ok)
		got, ok = impl.Post(empty, packet(0, size, "a"))
		wantRefused(t, "Post", got, empty, ok)
	}
}

func TestPostUntilFull(t *testing.T) {
	n := impl.Net{Size: 1}
	for i, p := range manyPackets(impl.MaxNet) {
		n = wantPosted(t, n, p)
		if len(n.List) != i+1 {
			t.Fatalf("%d packets behind %d", len(n.List), i+1)
		}
	}
	got, ok := impl.Post(n, impl.Packet{})
	wantRefused(t, "Post to a full net", got, n, ok)
	// Where one is taken there is room for one again.
	less := wantTaken(t, n, 30)
	full := wantPosted(t, less, packet(0, 0, "last"))
	got, ok = impl.Post(full, packet(0, 0, "more"))
	wantRefused(t, "Post to a full net", got, full, ok)
}

func TestTakeEach(t *testing.T) {
	for i := range someNet().List {
		wantTaken(t, someNet(), i)
	}
	one := impl.Net{Size: 2, List: []impl.Packet{packet(1, 0, "a")}}
	wantNet(t, "the last one taken", wantTaken(t, one, 0), impl.Net{Size: 2}, true, true)
	full := impl.Net{Size: 4, List: manyPackets(impl.MaxNet)}
	for _, i := range []int{0, 1, 30, impl.MaxNet - 2, impl.MaxNet - 1} {
		wantTaken(t, full, i)
	}
	for _, size := range []int{0, 1, impl.MaxBytes} {
		wantTaken(t, impl.Net{Size: 1, List: []impl.Packet{{}, {Bytes: make([]byte, size)}, {}}}, 1)
	}
}

// All orders in which five may be taken: each of them is taken once, as it was posted, and the others stay in order.
func TestTakeInAnyOrder(t *testing.T) {
	var takeAll func(n impl.Net) int
	takeAll = func(n impl.Net) int {
		if len(n.List) == 0 {
			return 1
		}
		rows := 0
		for i := range n.List {
			rows += takeAll(wantTaken(t, n, i))
		}
		return rows
	}
	n := someNet()
	n.List = n.List[:5]
	if rows := takeAll(n); rows != 120 {
		t.Errorf("%d rows", rows)
	}
}

func TestTakeRefuses(t *testing.T) {
	for _, n := range []impl.Net{{Size: 1}, {Size: impl.MaxNodes}, someNet(), {Size: 2, List: manyPackets(impl.MaxNet)}} {
		for _, i := range append(edgeNumbers(), len(n.List), len(n.List)+1) {
			wantNoneTaken(t, n, i, cloneNet(n))
		}
	}
	// What stands in the spare room is no packet.
	n := someNet()
	n.List = n.List[:2]
	wantNoneTaken(t, n, 2, cloneNet(n))
}

func TestTwiceEach(t *testing.T) {
	for i := range someNet().List {
		n := wantTwice(t, someNet(), i)
		// The other one of one that is spoilt is spoilt, too; taken, both are alike.
		first, p, _ := impl.Take(n, i)
		_, q, _ := impl.Take(first, len(first.List)-1)
		if !samePacket(p, q) || !samePacket(p, someNet().List[i]) {
			t.Errorf("Twice of %v: %v and %v", someNet().List[i], p, q)
		}
		wantTwice(t, n, len(n.List)-1)
	}
	wantTwice(t, impl.Net{Size: 1, List: []impl.Packet{{Bytes: make([]byte, impl.MaxBytes)}}}, 0)
}

func TestTwiceRefuses(t *testing.T) {
	for _, n := range []impl.Net{{Size: 1}, {Size: impl.MaxNodes}, someNet()} {
		for _, i := range append(edgeNumbers(), len(n.List), len(n.List)+1) {
			got, ok := impl.Twice(n, i)
			wantRefused(t, "Twice", got, cloneNet(n), ok)
		}
	}
	n := impl.Net{Size: 1, List: manyPackets(impl.MaxNet - 1)}
	full := wantTwice(t, n, 7)
	for _, i := range append(edgeNumbers(), 0, 7, impl.MaxNet-1, impl.MaxNet) {
		got, ok := impl.Twice(full, i)
		wantRefused(t, "Twice in a full net", got, cloneNet(full), ok)
	}
}

func TestSpoilEachBit(t *testing.T) {
	for i, p := range someNet().List {
		for bit := -9; bit < 8*len(p.Bytes)+17; bit++ {
			if bit >= 0 && bit < 8*len(p.Bytes) && !p.Spoilt {
				wantSpoilt(t, someNet(), i, bit)
				continue
			}
			got, ok := impl.Spoil(someNet(), i, bit)
			wantRefused(t, "Spoil", got, someNet(), ok)
		}
		for _, bit := range edgeNumbers() {
			got, ok := impl.Spoil(someNet(), i, bit)
			wantRefused(t, "Spoil", got, someNet(), ok)
		}
	}
}

func TestSpoilALongPacket(t *testing.T) {
	n := impl.Net{Size: 2, List: []impl.Packet{packet(0, 1, "a"), {Bytes: make([]byte, impl.MaxBytes)}}}
	for _, bit := range []int{0, 7, 8, 8*impl.MaxBytes - 8, 8*impl.MaxBytes - 1} {
		wantSpoilt(t, n, 1, bit)
	}
	for _, bit := range []int{-1, 8 * impl.MaxBytes, 8*impl.MaxBytes + 1} {
		got, ok := impl.Spoil(n, 1, bit)
		wantRefused(t, "Spoil", got, cloneNet(n), ok)
	}
	full := impl.Net{Size: 1, List: manyPackets(impl.MaxNet)}
	wantSpoilt(t, full, 0, 3)
	wantSpoilt(t, full, impl.MaxNet-2, 23)
}

func TestSpoiltOnceOnly(t *testing.T) {
	n := wantSpoilt(t, someNet(), 0, 5)
	for bit := range 24 {
		got, ok := impl.Spoil(n, 0, bit)
		wantRefused(t, "Spoil again", got, cloneNet(n), ok)
	}
	// The other one of a spoilt packet is spoilt already; one that was like it ahead of that is not.
	both := wantTwice(t, n, 0)
	got, ok := impl.Spoil(both, len(both.List)-1, 5)
	wantRefused(t, "Spoil the other one", got, cloneNet(both), ok)
	wantSpoilt(t, wantTwice(t, someNet(), 0), 6, 5)
	wantSpoilt(t, n, 1, 0)
	posted := wantPosted(t, impl.Net{Size: 1}, spoiltPacket(0, 0, "a"))
	got, ok = impl.Spoil(posted, 0, 0)
	wantRefused(t, "Spoil one that was posted spoilt", got, cloneNet(posted), ok)
}

// A packet without bytes has no bit, and bytes in the spare room are none of its bits.
func TestSpoilWithoutBytes(t *testing.T) {
	for _, b := range [][]byte{nil, {}, make([]byte, 0, 8), []byte("abc")[:0]} {
		n := impl.Net{Size: 2, List: []impl.Packet{{To: 1, Bytes: b}, packet(1, 0, "a")}}
		for _, bit := range append(edgeNumbers(), 0, 1, 7, 8) {
			got, ok := impl.Spoil(n, 0, bit)
			wantRefused(t, "Spoil", got, cloneNet(n), ok)
		}
	}
	n := impl.Net{Size: 1, List: []impl.Packet{{Bytes: []byte("abc")[:1]}}}
	got, ok := impl.Spoil(n, 0, 8)
	wantRefused(t, "Spoil", got, cloneNet(n), ok)
}

func TestSpoilRefusesPlaces(t *testing.T) {
	for _, n := range []impl.Net{{Size: 1}, {Size: impl.MaxNodes}, someNet(), {Size: 2, List: manyPackets(impl.MaxNet)}} {
		for _, i := range append(edgeNumbers(), len(n.List), len(n.List)+1) {
			for _, bit := range []int{-1, 0, 7, math.MaxInt} {
				got, ok := impl.Spoil(n, i, bit)
				wantRefused(t, "Spoil", got, cloneNet(n), ok)
			}
		}
	}
}

// A net that is not NetOk is answered by the zero net, also where the packet that is asked for is there and right.
func TestNetsThatAreNone(t *testing.T) {
	for _, n := range wrongNets() {
		was := cloneNet(n)
		for _, p := range []impl.Packet{{}, packet(0, 0, "a"), packet(0, 1, "a"), packet(-1, 9, "a")} {
			got, ok := impl.Post(n, p)
			wantRefused(t, "Post", got, impl.Net{}, ok)
		}
		for _, i := range append(edgeNumbers(), 0, 1, 2, len(n.List)-1, len(n.List)) {
			wantNoneTaken(t, n, i, impl.Net{})
			got, ok := impl.Twice(n, i)
			wantRefused(t, "Twice", got, impl.Net{}, ok)
			for _, bit := range []int{-1, 0, 3, 8, math.MaxInt} {
				got, ok = impl.Spoil(n, i, bit)
				wantRefused(t, "Spoil", got, impl.Net{}, ok)
			}
		}
		if !sameNet(n, was) {
			t.Fatalf("%v is written into", was)
		}
	}
}

// P4 over a long row: each of the want functions holds the net against a list of the test's own.
func TestNetInALongRow(t *testing.T) {
	n, seed, full, taken := impl.Net{Size: 4}, 1, 0, 0
	for step := range 3000 {
		seed = (seed*1103515245 + 12345) % (1 << 31)
		many, pick := len(n.List), seed>>8
		i := pick % max(1, many)
		switch kind := pick % 7; {
		case many == impl.MaxNet:
			got, ok := impl.Twice(n, i)
			wantRefused(t, "Twice in a full net", got, cloneNet(n), ok)
			n = wantTaken(t, n, i)
			full++
		case many == 0 || kind < 2:
			n = wantPosted(t, n, impl.Packet{From: pick % 4, To: pick / 4 % 4, Bytes: bytes.Repeat([]byte{byte(step)}, pick%5)})
		case kind < 4:
			n = wantTwice(t, n, i)
		case kind < 6 && !n.List[i].Spoilt && len(n.List[i].Bytes) > 0:
			n = wantSpoilt(t, n, i, pick%(8*len(n.List[i].Bytes)))
		default:
			n = wantTaken(t, n, i)
			taken++
		}
	}
	if full < 10 || taken < 300 {
		t.Errorf("%d times full, %d taken", full, taken)
	}
}

// roomyNet is a net with spare room behind all of its lists, and the whole of each of them.
func roomyNet(n impl.Net) (impl.Net, []impl.Packet) {
	list := slices.Clone(n.List)
	for i := range list {
		list[i].Bytes, _ = roomy(list[i].Bytes, 99)
	}
	own, whole := roomy(list, spoiltPacket(97, 96, "spare"))
	return impl.Net{Size: n.Size, List: own}, whole
}

// wholeOf copies a list of packets with what stands in the spare room of their bytes.
func wholeOf(list []impl.Packet) []impl.Packet {
	out := slices.Clone(list)
	for i, p := range list {
		out[i].Bytes = bytes.Clone(p.Bytes[:cap(p.Bytes)])
	}
	return out
}

func wholesSame(a, b []impl.Packet) bool { return slices.EqualFunc(wholeOf(a), b, samePacket) }

// A netAsk is one question to a net and a packet, with the places and bits in it already.
type netAsk struct {
	what string
	do   func(impl.Net, impl.Packet) (impl.Net, impl.Packet)
}

// netAsks is all that can be asked of a net of so many packets, with right and wrong places and bits.
func netAsks(many int) []netAsk {
	alone := func(n impl.Net, _ bool) (impl.Net, impl.Packet) { return n, impl.Packet{} }
	list := []netAsk{
		{"NetOk", func(n impl.Net, _ impl.Packet) (impl.Net, impl.Packet) {
			impl.NetOk(n)
			return impl.Net{}, impl.Packet{}
		}},
		{"Post", func(n impl.Net, p impl.Packet) (impl.Net, impl.Packet) { return alone(impl.Post(n, p)) }},
		{"Post refused", func(n impl.Net, p impl.Packet) (impl.Net, impl.Packet) { p.To = -1; return alone(impl.Post(n, p)) }},
	}
	for i := -1; i <= many; i++ {
		list = append(list,
			netAsk{"Take", func(n impl.Net, _ impl.Packet) (impl.Net, impl.Packet) { left, p, _ := impl.Take(n, i); return left, p }},
			netAsk{"Twice", func(n impl.Net, _ impl.Packet) (impl.Net, impl.Packet) { return alone(impl.Twice(n, i)) }})
		for _, bit := range []int{-1, 0, 7, 8, 1 << 20} {
			list = append(list, netAsk{"Spoil", func(n impl.Net, _ impl.Packet) (impl.Net, impl.Packet) { return alone(impl.Spoil(n, i, bit)) }})
		}
	}
	return list
}

func netsForMemory() []impl.Net {
	return append(wrongNets(), impl.Net{Size: 1}, someNet(), impl.Net{Size: 2, List: manyPackets(impl.MaxNet)},
		impl.Net{Size: 3, List: someNet().List[:1]}, impl.Net{Size: 3, List: someNet().List[1:4]})
}

// P33: neither a net's lists, nor those of the packet, nor the spare room behind them are written.
func TestNetWritesNothing(t *testing.T) {
	for _, made := range netsForMemory() {
		n, list := roomyNet(made)
		b, _ := roomy([]byte("posted"), 98)
		p := impl.Packet{Bytes: b}
		were, pWas := wholeOf(list), wholeOf([]impl.Packet{p})
		for _, ask := range netAsks(len(made.List)) {
			ask.do(n, p)
			if !wholesSame(list, were) || !wholesSame([]impl.Packet{p}, pWas) {
				t.Fatalf("%s writes into %v", ask.what, made)
			}
		}
	}
}

// netLists gathers all lists of nets and packets, those in the spare room of a list of packets among them.
type netLists struct {
	packets [][]impl.Packet
	bytes   [][]byte
}

func (x *netLists) addNet(n impl.Net) {
	whole := n.List[:cap(n.List)]
	x.packets = append(x.packets, whole)
	for _, p := range whole {
		x.addPacket(p)
	}
}

func (x *netLists) addPacket(p impl.Packet) { x.bytes = append(x.bytes, p.Bytes[:cap(p.Bytes)]) }

// apart writes another mark into each list, up to the end of its spare room: one that has lost its own shares memory with another.
func (x *netLists) apart() bool {
	for mark, list := range x.packets {
		for i := range list {
			list[i].From = mark
		}
	}
	for mark, b := range x.bytes {
		for i := range b {
			b[i] = byte(mark)
		}
	}
	for mark, list := range x.packets {
		if slices.ContainsFunc(list, func(p impl.Packet) bool { return p.From != mark }) {
			return false
		}
	}
	for mark, b := range x.bytes {
		if slices.ContainsFunc(b, func(c byte) bool { return c != byte(mark) }) {
			return false
		}
	}
	return len(x.packets) < 256 && len(x.bytes) < 256
}

// P33: no answer shares memory with an argument, and no two lists of one answer share any.
func TestNetAnswersAreNewMemory(t *testing.T) {
	for _, made := range netsForMemory() {
		for _, ask := range netAsks(len(made.List)) {
			n, _ := roomyNet(made)
			b, _ := roomy([]byte("posted"), 98)
			p := impl.Packet{Bytes: b}
			left, taken := ask.do(n, p)
			var all netLists
			all.addNet(cutSpare(n))
			all.addPacket(p)
			all.addNet(left)
			all.addPacket(taken)
			if !all.apart() {
				t.Fatalf("%s of a net of %d packets shares memory", ask.what, len(made.List))
			}
		}
	}
}

// cutSpare leaves out the spare packets, which have one list of bytes between them.
func cutSpare(n impl.Net) impl.Net {
	return impl.Net{Size: n.Size, List: n.List[:len(n.List):len(n.List)]}
}

// The same net given twice is answered by memory that is not shared either: nothing is kept.
func TestNetAnswersShareNothingWithEachOther(t *testing.T) {
	n := someNet()
	var all netLists
	for range 2 {
		posted, _ := impl.Post(n, packet(0, 0, "posted"))
		refused, _ := impl.Post(n, packet(0, 9, "posted"))
		left, taken, _ := impl.Take(n, 1)
		twice, _ := impl.Twice(n, 1)
		spoilt, _ := impl.Spoil(n, 1, 0)
		for _, x := range []impl.Net{posted, refused, left, twice, spoilt} {
			all.addNet(x)
		}
		all.addPacket(taken)
	}
	if !all.apart() || !sameNet(n, someNet()) {
		t.Error("two answers share memory")
	}
}
