package tests

import (
	"bytes"
	"hash/adler32"
	"math"
	"math/big"
	"testing"

	"loop.example/g00283/impl"
)

// sealedInputs are bytes of many sizes and kinds, no bytes at all among them.
func sealedInputs() [][]byte {
	list := [][]byte{
		nil, {}, {0}, {1}, {128}, {255}, {0, 0, 0, 0}, {1, 0, 0, 0}, {255, 255, 255, 255}, []byte("hello"),
		bytes.Repeat([]byte{255}, 256), bytes.Repeat([]byte{255}, 257), bytes.Repeat([]byte{0}, 300),
	}
	for size := range 40 {
		b := make([]byte, size)
		for i := range b {
			b[i] = byte(i*91 + size*7)
		}
		list = append(list, b)
	}
	return list
}

// checkBySums never takes what is left until all is summed, in numbers that have no end.
func checkBySums(b []byte) int {
	first, second := big.NewInt(1), big.NewInt(0)
	for _, x := range b {
		first.Add(first, big.NewInt(int64(x)))
		second.Add(second, first)
	}
	left := big.NewInt(65521)
	return int(second.Mod(second, left).Int64())*65536 + int(first.Mod(first, left).Int64())
}

func wantOpen(t *testing.T, b, want []byte, ok bool) {
	t.Helper()
	got, gotOk := impl.Open(b)
	if !bytes.Equal(got, want) || gotOk != ok {
		t.Fatalf("Open(%v) = %v, %v; want %v, %v", b, got, gotOk, want, ok)
	}
}

func TestCheck(t *testing.T) {
	for _, c := range []struct {
		b    []byte
		want int
	}{
		{nil, 1}, {[]byte{}, 1}, {[]byte{0}, 1*65536 + 1}, {[]byte{1}, 2*65536 + 2}, {[]byte{255}, 256*65536 + 256},
		{[]byte{1, 2}, 6*65536 + 4}, {[]byte{2, 1}, 7*65536 + 4}, {[]byte("hello"), 0x062c0215},
		{bytes.Repeat([]byte{0}, 65520), 65520*65536 + 1}, {bytes.Repeat([]byte{0}, 65521), 1},
		{append(bytes.Repeat([]byte{255}, 256), 239), (8388736+65520-65521*129)*65536 + 65520},
		{append(bytes.Repeat([]byte{255}, 256), 240), (8388736 - 65521*128) * 65536},
	} {
		if got := impl.Check(c.b); got != c.want {
			t.Errorf("Check of %d bytes = %d, want %d", len(c.b), got, c.want)
		}
	}
}

// Two ways to the same sums: one that takes what is left once only, and the library's.
func TestCheckBySums(t *testing.T) {
	list := sealedInputs()
	for size := 250; size < 20000; size += 1 + size/3 {
		list = append(list, bytes.Repeat([]byte{255}, size), bytes.Repeat([]byte{255, 0, 128}, size))
	}
	list = append(list, bytes.Repeat([]byte{255}, 300000))
	for _, b := range list {
		got := impl.Check(b)
		if got != checkBySums(b) || got != int(adler32.Checksum(b)) {
			t.Errorf("Check of %d bytes = %d, want %d", len(b), got, checkBySums(b))
		}
	}
}

func TestSealBytes(t *testing.T) {
	for _, c := range []struct{ b, want string }{
		{"", "\x01\x00\x00\x00"}, {"\x00", "\x00\x01\x00\x01\x00"}, {"\x01", "\x01\x02\x00\x02\x00"},
		{"\xff", "\xff\x00\x01\x00\x01"}, {"hello", "hello\x15\x02\x2c\x06"},
	} {
		if got := string(impl.Seal([]byte(c.b))); got != c.want {
			t.Errorf("Seal(%q) = %q, want %q", c.b, got, c.want)
		}
	}
	// A second sum from 32768 on, so that the four bytes are those of no word that is 0 or above.
	high := bytes.Repeat([]byte{0}, 40000)
	if got := impl.Seal(high); !bytes.Equal(got, append(high, 1, 0, 0x40, 0x9c)) {
		t.Errorf("Seal of 40000 bytes of 0 ends by %v", got[max(0, len(got)-4):])
	}
	if len(impl.Seal(nil)) != 4 {
		t.Error("Seal(nil) is not four bytes")
	}
}

func TestSealedIsOpened(t *testing.T) {
	for _, b := range append(sealedInputs(), bytes.Repeat([]byte{255}, 70000), bytes.Repeat([]byte{0}, 65520)) {
		sealed := impl.Seal(b)
		if len(sealed) != len(b)+4 || !bytes.Equal(sealed[:len(b)], b) {
			t.Fatalf("Seal of %d bytes does not begin by them", len(b))
		}
		wantOpen(t, sealed, b, true)
		wantOpen(t, impl.Seal(sealed), sealed, true)
	}
}

func TestOneBitTurnedIsNotOpened(t *testing.T) {
	for _, b := range sealedInputs() {
		sealed := impl.Seal(b)
		for bit := range 8 * len(sealed) {
			turned := impl.Turn(sealed, bit)
			wantOpen(t, turned, nil, false)
			wantOpen(t, impl.Turn(turned, bit), b, true)
		}
	}
}

func TestTooFewAreNotOpened(t *testing.T) {
	whole := impl.Seal(impl.Seal(nil))
	for size := range 4 {
		wantOpen(t, whole[:size], nil, false)
		wantOpen(t, make([]byte, size), nil, false)
		wantOpen(t, impl.Seal(nil)[:size], nil, false)
	}
	wantOpen(t, nil, nil, false)
	wantOpen(t, []byte{1, 0, 0, 0}, nil, true)
	for _, four := range [][]byte{{0, 0, 0, 0}, {1, 0, 1, 0}, {0, 0, 0, 1}, {2, 0, 0, 0}, {255, 255, 255, 255}, {0, 1, 0, 0}} {
		wantOpen(t, four, nil, false)
	}
}

// A sum goes on by 65521 in the bytes' own number only: 65521 more in a told sum is another seal.
func TestSumsBeyondAreNotOpened(t *testing.T) {
	for _, four := range [][]byte{
		{0xf2, 0xff, 0, 0},       // 65522, 0
		{1, 0, 0xf1, 0xff},       // 1, 65521
		{0xf2, 0xff, 0xf1, 0xff}, // 65522, 65521
	} {
		wantOpen(t, four, nil, false)
	}
	// 65521 bytes of 0 have the sums of no bytes at all.
	none := bytes.Repeat([]byte{0}, 65521)
	wantOpen(t, append(bytes.Clone(none), 1, 0, 0, 0), none, true)
	wantOpen(t, append(bytes.Clone(none), 1, 0, 0xf1, 0xff), nil, false)
}

func TestAnothersSealIsNotOpened(t *testing.T) {
	list := sealedInputs()
	for i, a := range list {
		for k, b := range list {
			if i == k || bytes.Equal(a, b) {
				continue
			}
			sealed := impl.Seal(b)
			mixed := append(bytes.Clone(a), sealed[len(b):]...)
			wantOpen(t, mixed, nil, false)
		}
	}
	sealed := impl.Seal([]byte("hello"))
	for cut := range len(sealed) {
		wantOpen(t, sealed[:cut], nil, false)
		if cut > 0 {
			wantOpen(t, sealed[cut:], nil, false)
		}
	}
	wantOpen(t, append(bytes.Clone(sealed), 0), nil, false)
	wantOpen(t, append([]byte{0}, sealed...), nil, false)
	// High bytes first is no seal.
	wantOpen(t, []byte("hello\x06\x2c\x02\x15"), nil, false)
}

func TestTurn(t *testing.T) {
	for _, c := range []struct {
		b    string
		bit  int
		want string
	}{
		{"\x00", 0, "\x01"}, {"\x01", 0, "\x00"}, {"\x00", 7, "\x80"}, {"\xff", 7, "\x7f"}, {"\x00\x00", 8, "\x00\x01"},
		{"\x00\x00", 9, "\x00\x02"}, {"\x00\x00\x00", 23, "\x00\x00\x80"}, {"\x00\x00\x00", 16, "\x00\x00\x01"},
		{"\x00", 8, "\x00"}, {"\x00\xff", 16, "\x00\xff"}, {"\x00\xff", 17, "\x00\xff"}, {"", 0, ""}, {"", 7, ""}, {"", -1, ""},
		{"ab", -1, "ab"}, {"ab", -7, "ab"}, {"ab", -8, "ab"}, {"ab", -9, "ab"}, {"ab", -16, "ab"}, {"ab", 1 << 32, "ab"}, {"ab", -1 << 32, "ab"},
		{"ab", math.MaxInt, "ab"}, {"ab", math.MaxInt - 7, "ab"}, {"ab", math.MinInt, "ab"}, {"ab", math.MinInt + 1, "ab"},
	} {
		if got := string(impl.Turn([]byte(c.b), c.bit)); got != c.want {
			t.Errorf("Turn(%q, %d) = %q, want %q", c.b, c.bit, got, c.want)
		}
	}
	if len(impl.Turn(nil, 0)) != 0 {
		t.Error("Turn(nil, 0) has bytes")
	}
}

func TestTurnChangesOneBitAlone(t *testing.T) {
	for _, b := range sealedInputs() {
		for bit := range 8 * len(b) {
			turned := impl.Turn(b, bit)
			for place := range 8 * len(b) {
				same := b[place/8]>>(place%8)&1 == turned[place/8]>>(place%8)&1
				if same != (place != bit) {
					t.Fatalf("Turn(%v, %d) = %v: bit %d", b, bit, turned, place)
				}
			}
			if !bytes.Equal(impl.Turn(turned, bit), b) {
				t.Fatalf("Turn(%v, %d) turned back is not as it was", b, bit)
			}
		}
	}
}

// P33: neither an argument nor the spare room behind it is written.
func TestSealingWritesNothing(t *testing.T) {
	whole := append(impl.Seal([]byte("abc")), 9, 9, 9, 9, 9, 9, 9, 9)
	before := bytes.Clone(whole)
	for end := range len(whole) + 1 {
		b := whole[:end]
		impl.Check(b)
		impl.Seal(b)
		impl.Open(b)
		for bit := -9; bit <= 8*len(whole)+9; bit++ {
			impl.Turn(b, bit)
		}
		if !bytes.Equal(whole, before) {
			t.Fatalf("written with %d bytes: %v, was %v", end, whole, before)
		}
	}
}

// The bytes in the spare room are not the argument's own: only those up to its end count.
func TestSealingReadsNothingBehindTheEnd(t *testing.T) {
	whole := impl.Seal([]byte("abc"))
	for end := range len(whole) {
		b, own := whole[:end], bytes.Clone(whole[:end])
		if impl.Check(b) != impl.Check(own) || !bytes.Equal(impl.Seal(b), impl.Seal(own)) {
			t.Fatalf("what stands behind %d bytes counts", end)
		}
		wantOpen(t, b, nil, false)
		if got := impl.Turn(b, 8*end); !bytes.Equal(got, own) {
			t.Fatalf("Turn behind %d bytes = %v", end, got)
		}
	}
}

func TestSealedAnswersAreNewMemory(t *testing.T) {
	sealed := impl.Seal([]byte("abc"))
	for name, do := range map[string]func([]byte) []byte{
		"Seal":          impl.Seal,
		"Open":          func(b []byte) []byte { out, _ := impl.Open(b); return out },
		"Turn":          func(b []byte) []byte { return impl.Turn(b, 3) },
		"Turn below":    func(b []byte) []byte { return impl.Turn(b, -1) },
		"Turn beyond":   func(b []byte) []byte { return impl.Turn(b, 8*len(b)) },
		"Turn far away": func(b []byte) []byte { return impl.Turn(b, math.MaxInt) },
	} {
		// Spare room behind the argument, where an answer could have been laid.
		given := append(make([]byte, 0, 64), sealed...)
		first, second := do(given), do(given)
		want := bytes.Clone(second)
		for _, list := range [][]byte{first[:cap(first)], given[:cap(given)]} {
			for i := range list {
				list[i] = 77
			}
		}
		if !bytes.Equal(second, want) || len(want) == 0 {
			t.Errorf("%s: an answer shares memory with the argument or with another answer", name)
		}
		for i := range second {
			second[i] = 33
		}
		if bytes.IndexByte(given[:cap(given)], 33) >= 0 {
			t.Errorf("%s: the argument is written through the answer", name)
		}
	}
}
