package tests

import (
	"bytes"
	"math"
	"math/big"
	"strings"
	"testing"

	"loop.example/g00283/impl"
)

const (
	leastWord    = -2147483648
	greatestWord = 2147483647
)

// padded puts b behind some bytes that are whole numbers themselves, and others behind it, so that a reader that begins or ends elsewhere is seen.
func padded(ahead int, b []byte) []byte {
	out := bytes.Repeat([]byte{5}, ahead)
	out = append(out, b...)
	return append(out, 1, 255, 0)
}

func wantNum(t *testing.T, b []byte, at, n, next int, ok bool) {
	t.Helper()
	gotN, gotNext, gotOk := impl.GetNum(b, at)
	if gotN != n || gotNext != next || gotOk != ok {
		t.Fatalf("GetNum(%v, %d) = %d, %d, %v; want %d, %d, %v", b, at, gotN, gotNext, gotOk, n, next, ok)
	}
}

func wantWord(t *testing.T, b []byte, at, n, next int, ok bool) {
	t.Helper()
	gotN, gotNext, gotOk := impl.GetWord(b, at)
	if gotN != n || gotNext != next || gotOk != ok {
		t.Fatalf("GetWord(%v, %d) = %d, %d, %v; want %d, %d, %v", b, at, gotN, gotNext, gotOk, n, next, ok)
	}
}

func wantText(t *testing.T, b []byte, at int, s string, next int, ok bool) {
	t.Helper()
	gotS, gotNext, gotOk := impl.GetText(b, at)
	if gotS != s || gotNext != next || gotOk != ok {
		t.Fatalf("GetText(%v, %d) = %q, %d, %v; want %q, %d, %v", b, at, gotS, gotNext, gotOk, s, next, ok)
	}
}

func TestPutNumBytes(t *testing.T) {
	for _, c := range []struct {
		n    int
		want string
	}{
		{0, "\x00"}, {1, "\x01"}, {127, "\x7f"},
		{128, "\x80\x01"}, {129, "\x81\x01"}, {300, "\xac\x02"}, {16383, "\xff\x7f"},
		{16384, "\x80\x80\x01"}, {2097151, "\xff\xff\x7f"},
		{2097152, "\x80\x80\x80\x01"}, {impl.MaxNum, "\xff\xff\xff\x07"},
		{impl.MaxNum + 1, ""}, {impl.MaxNum + 2, ""}, {1 << 28, ""}, {1 << 32, ""}, {1<<32 + 5, ""}, {math.MaxInt, ""},
		{-1, ""}, {-128, ""}, {-impl.MaxNum, ""}, {-1 << 32, ""}, {math.MinInt, ""},
	} {
		if got := string(impl.PutNum(c.n)); got != c.want {
			t.Errorf("PutNum(%d) = %q, want %q", c.n, got, c.want)
		}
	}
}

func TestNumPutIsGot(t *testing.T) {
	for n := 0; n <= impl.MaxNum; n += 1 + n/5000 {
		putIsGotNum(t, n)
	}
	for _, edge := range []int{127, 16383, 2097151, impl.MaxNum - 1} {
		putIsGotNum(t, edge)
		putIsGotNum(t, edge+1)
	}
}

func putIsGotNum(t *testing.T, n int) {
	t.Helper()
	b := impl.PutNum(n)
	wantNum(t, b, 0, n, len(b), true)
	wantNum(t, padded(3, b), 3, n, 3+len(b), true)
	for cut := range b {
		wantNum(t, b[:cut], 0, 0, 0, false)
	}
}

func TestGetNumRefuses(t *testing.T) {
	for _, s := range []string{
		"", "\x80", "\xff\xff\xff", // ends too early
		"\x80\x00", "\x81\x00", "\xff\x80\x00", "\x80\x80\x80\x00", "\xac\x82\x00", // not the shortest
		"\x80\x80\x80\x08", "\xff\xff\xff\x08", "\xff\xff\xff\x7f", // above MaxNum
		"\x80\x80\x80\x80\x00", "\x80\x80\x80\x80\x01", "\xff\xff\xff\x87\x00", // goes on too long
		strings.Repeat("\x80", 9) + "\x01", strings.Repeat("\x80", 10) + "\x01", strings.Repeat("\xff", 300) + "\x01",
	} {
		wantNum(t, []byte(s), 0, 0, 0, false)
		wantNum(t, []byte("\x05\x05"+s), 2, 0, 0, false)
	}
}

// numThere finds the number at a place by trying each number of bytes, from what PutNum alone says.
func numThere(b []byte) (int, int, bool) {
	n := 0
	for i, x := range b {
		if i == 8 {
			break
		}
		n |= int(x&127) << (7 * i)
		if put := impl.PutNum(n); len(put) == i+1 && bytes.Equal(put, b[:i+1]) {
			return n, i + 1, true
		}
	}
	return 0, 0, false
}

func TestGetNumIsJustWhatPutNumMakes(t *testing.T) {
	for i := range 1 << 16 {
		b := []byte{byte(i), byte(i >> 8)}
		n, next, ok := numThere(b)
		wantNum(t, b, 0, n, next, ok)
	}
	kinds := []byte{0, 1, 7, 8, 127, 128, 135, 255}
	for i := range 1 << 15 {
		b := make([]byte, 5)
		for k := range b {
			b[k] = kinds[i>>(3*k)&7]
		}
		n, next, ok := numThere(b)
		wantNum(t, b, 0, n, next, ok)
	}
}

func TestPutWordBytes(t *testing.T) {
	for _, c := range []struct {
		n    int
		want string
	}{
		{0, "\x00\x00\x00\x00"}, {1, "\x01\x00\x00\x00"}, {255, "\xff\x00\x00\x00"}, {256, "\x00\x01\x00\x00"},
		{0x12345678, "\x78\x56\x34\x12"}, {greatestWord, "\xff\xff\xff\x7f"}, {leastWord, "\x00\x00\x00\x80"},
		{-1, "\xff\xff\xff\xff"}, {-2, "\xfe\xff\xff\xff"}, {-256, "\x00\xff\xff\xff"},
		{greatestWord + 1, ""}, {leastWord - 1, ""}, {1 << 32, ""}, {1<<32 + 7, ""}, {-1 << 32, ""}, {-1<<32 - 1, ""},
		{math.MaxInt, ""}, {math.MinInt, ""},
	} {
		if got := string(impl.PutWord(c.n)); got != c.want {
			t.Errorf("PutWord(%d) = %q, want %q", c.n, got, c.want)
		}
	}
}

func TestWordPutIsGot(t *testing.T) {
	list := []int{leastWord, leastWord + 1, -65537, -65536, -129, -128, -1, 0, 1, 127, 128, 255, 256, 65535, 65536, greatestWord - 1, greatestWord}
	for n := leastWord; n <= greatestWord; n += 1000003 {
		list = append(list, n)
	}
	for _, n := range list {
		b := impl.PutWord(n)
		wantWord(t, b, 0, n, 4, true)
		wantWord(t, padded(2, b), 2, n, 6, true)
		for cut := range b {
			wantWord(t, b[:cut], 0, 0, 0, false)
		}
	}
}

func TestWordGotIsPut(t *testing.T) {
	kinds := []byte{0, 1, 127, 128, 254, 255}
	for i := range 6 * 6 * 6 * 6 {
		b := []byte{kinds[i%6], kinds[i/6%6], kinds[i/36%6], kinds[i/216]}
		n, next, ok := impl.GetWord(b, 0)
		if !ok || next != 4 || !bytes.Equal(impl.PutWord(n), b) {
			t.Fatalf("GetWord(%v, 0) = %d, %d, %v", b, n, next, ok)
		}
	}
}

func TestPutTextBytes(t *testing.T) {
	for _, c := range []struct{ s, want string }{
		{"", "\x00"}, {"a", "\x01a"}, {"ab", "\x02ab"}, {"\x00\xff\x80", "\x03\x00\xff\x80"}, {"\u00e9", "\x02\xc3\xa9"},
		{strings.Repeat("x", 127), "\x7f" + strings.Repeat("x", 127)},
		{strings.Repeat("x", 128), "\x80\x01" + strings.Repeat("x", 128)},
		{strings.Repeat("x", impl.MaxText), "\xc8\x01" + strings.Repeat("x", impl.MaxText)},
		{strings.Repeat("x", impl.MaxText+1), ""}, {strings.Repeat("x", 1000), ""},
	} {
		if got := string(impl.PutText(c.s)); got != c.want {
			t.Errorf("PutText(%q) = %q, want %q", c.s, got, c.want)
		}
	}
}

func TestTextPutIsGot(t *testing.T) {
	for size := 0; size <= impl.MaxText; size++ {
		raw := make([]byte, size)
		for i := range raw {
			raw[i] = byte(i*37 + size)
		}
		b := impl.PutText(string(raw))
		wantText(t, b, 0, string(raw), len(b), true)
		wantText(t, padded(4, b), 4, string(raw), 4+len(b), true)
		for cut := range b {
			wantText(t, b[:cut], 0, "", 0, false)
		}
	}
}

func TestGetTextRefuses(t *testing.T) {
	long := strings.Repeat("y", 400)
	for _, s := range []string{
		"", "\x01", "\x03ab", "\xc8\x01" + long[:impl.MaxText-1], // ends too early
		"\xc9\x01" + long, "\x80\x02" + long, "\xff\xff\xff\x07" + long, // above MaxText
		"\x80\x00", "\x82\x00ab", "\x80", "\x80\x80\x80\x80\x01" + long, // no number ahead
	} {
		wantText(t, []byte(s), 0, "", 0, false)
		wantText(t, []byte("\x00\x00"+s), 2, "", 0, false)
	}
}

func TestPlacesThatAreNone(t *testing.T) {
	b := []byte{1, 2, 3, 0, 0, 0}
	for _, list := range [][]byte{b, b[:0], nil} {
		for _, at := range []int{-1, -2, -len(b), math.MinInt, math.MinInt + 1, len(list), len(list) + 1, 1 << 32, math.MaxInt - 1, math.MaxInt} {
			wantNum(t, list, at, 0, 0, false)
			wantWord(t, list, at, 0, 0, false)
			wantText(t, list, at, "", 0, false)
		}
	}
	wantNum(t, b, 5, 0, 6, true)
	wantText(t, b, 5, "", 6, true)
	wantWord(t, b, 2, 3, 6, true)
	wantWord(t, b, 3, 0, 0, false)
}

// The bytes behind a slice's end are not its own, even where it has room for them.
func TestNothingIsReadBehindTheEnd(t *testing.T) {
	room := []byte{172, 2, 0, 0, 0}
	wantNum(t, room[:1], 0, 0, 0, false)
	wantWord(t, room[:3], 0, 0, 0, false)
	text := []byte{2, 97, 98}
	wantText(t, text[:2], 0, "", 0, false)
}

func roundBySums(n int) int {
	m := big.NewInt(4294967296)
	left := int(new(big.Int).Mod(big.NewInt(int64(n)), m).Int64())
	if left > greatestWord {
		left -= 4294967296
	}
	return left
}

func TestRound(t *testing.T) {
	for _, c := range [][2]int{
		{0, 0}, {-1, -1}, {greatestWord, greatestWord}, {leastWord, leastWord},
		{greatestWord + 1, leastWord}, {leastWord - 1, greatestWord},
		{4294967295, -1}, {4294967296, 0}, {4294967301, 5}, {-4294967296, 0}, {-4294967297, -1},
		{math.MaxInt, -1}, {math.MinInt, 0}, {math.MinInt + 1, 1},
		{greatestWord * greatestWord, 1}, {leastWord * leastWord, 0}, {leastWord * greatestWord, leastWord},
	} {
		if got := impl.Round(c[0]); got != c[1] {
			t.Errorf("Round(%d) = %d, want %d", c[0], got, c[1])
		}
	}
	for shift := range 63 {
		for _, off := range []int{-3, -1, 0, 1, 12345} {
			for _, sign := range []int{-1, 1} {
				n := sign*(1<<shift) + off
				if got := impl.Round(n); got != roundBySums(n) {
					t.Errorf("Round(%d) = %d, want %d", n, got, roundBySums(n))
				}
			}
		}
	}
}

// P33: no bytes of an argument are written, nor those behind it.
func TestReadersWriteNothing(t *testing.T) {
	whole := append(impl.PutText("abc"), impl.PutWord(-5)...)
	whole = append(whole, 128, 0, 255, 255, 255, 255, 1)
	before := bytes.Clone(whole)
	for end := range len(whole) + 1 {
		for at := -2; at <= len(whole)+2; at++ {
			b := whole[:end]
			impl.GetNum(b, at)
			impl.GetWord(b, at)
			impl.GetText(b, at)
			if !bytes.Equal(whole, before) {
				t.Fatalf("written at place %d of %d bytes: %v, was %v", at, end, whole, before)
			}
		}
	}
}

func TestAnswersAreNewMemory(t *testing.T) {
	b := []byte{2, 97, 98}
	s, _, _ := impl.GetText(b, 0)
	b[1] = 122
	if s != "ab" {
		t.Error("the text that was got shares its bytes with the argument")
	}
	for _, put := range []func() []byte{
		func() []byte { return impl.PutNum(300) },
		func() []byte { return impl.PutWord(-2) },
		func() []byte { return impl.PutText("ab") },
	} {
		first, second := put(), put()
		want := bytes.Clone(second)
		for i := range first {
			first[i] = 0
		}
		if !bytes.Equal(second, want) || !bytes.Equal(put(), want) {
			t.Error("two answers share memory")
		}
	}
}
