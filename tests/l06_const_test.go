package tests

import (
	"bytes"
	"math"
	"slices"
	"strings"
	"testing"

	"loop.example/g00283/impl"
)

func intConst(n int) impl.Const { return impl.Const{Kind: impl.PlInt, N: n} }

func classConst(a string) impl.Const { return impl.Const{Kind: impl.PlClass, A: a} }

func fieldConst(a, b string) impl.Const { return impl.Const{Kind: impl.PlField, A: a, B: b} }

func callConst(a, b string) impl.Const { return impl.Const{Kind: impl.PlCall, A: a, B: b} }

const longestName = "aZbYcXzA"

// rightConsts: consts of each kind, with each part that it has at its edges.
func rightConsts() []impl.Const {
	var list []impl.Const
	for _, n := range []int{leastWord, leastWord + 1, -65536, -129, -128, -5, -1, 0, 1, 4, 127, 128, 255, 256, 300, 65536, impl.MaxNum + 1, greatestWord - 1, greatestWord} {
		list = append(list, intConst(n))
	}
	names := []string{"a", "z", "A", "Z", "I", "Ab", "Cell", "cell", "CELL", "run", "zzzzzzz", longestName}
	for i, a := range names {
		b := names[len(names)-1-i]
		list = append(list, classConst(a), fieldConst(a, b), callConst(a, b), fieldConst(a, a), callConst(a, a))
	}
	return list
}

// rawText writes a text down as PutText does, however long it is.
func rawText(s string) []byte { return append(impl.PutNum(len(s)), s...) }

// rawConst writes down what its kind has, whether that is right or not.
func rawConst(k impl.Const) []byte {
	out := impl.PutNum(k.Kind)
	switch k.Kind {
	case impl.PlInt:
		return append(out, impl.PutWord(k.N)...)
	case impl.PlClass:
		return append(out, rawText(k.A)...)
	}
	return append(append(out, rawText(k.A)...), rawText(k.B)...)
}

// wantNoConst: beside the false stands the zero value, no part of what was read ahead of the fault.
func wantNoConst(t *testing.T, b []byte, at int) {
	t.Helper()
	if k, next, ok := impl.ConstOf(b, at); ok || next != 0 || k != (impl.Const{}) {
		t.Fatalf("ConstOf(%q, %d) = %+v, %d, %v; want none", b, at, k, next, ok)
	}
}

func wantNoConstIn(t *testing.T, b []byte) {
	t.Helper()
	wantNoConst(t, b, 0)
	wantNoConst(t, padded(3, b), 3)
}

func wantConstAt(t *testing.T, b []byte, at int, k impl.Const, next int) {
	t.Helper()
	if got, end, ok := impl.ConstOf(b, at); !ok || end != next || got != k {
		t.Fatalf("ConstOf(%q, %d) = %+v, %d, %v; want %+v, %d", b, at, got, end, ok, k, next)
	}
}

func wantConst(t *testing.T, k impl.Const) {
	t.Helper()
	if !impl.ConstOk(k) {
		t.Fatalf("ConstOk(%+v) is false", k)
	}
	b := impl.ConstBytes(k)
	if want := rawConst(k); !bytes.Equal(b, want) {
		t.Fatalf("ConstBytes(%+v) = %q, want %q", k, b, want)
	}
	wantConstAt(t, b, 0, k, len(b))
	for ahead := range 6 {
		wantConstAt(t, padded(ahead, b), ahead, k, ahead+len(b))
	}
	wantConstAt(t, slices.Concat(b, b), len(b), k, 2*len(b))
}

func wantWrongConst(t *testing.T, k impl.Const) {
	t.Helper()
	if impl.ConstOk(k) {
		t.Fatalf("ConstOk(%+v) is true", k)
	}
	if b := impl.ConstBytes(k); len(b) != 0 {
		t.Fatalf("ConstBytes(%+v) = %q", k, b)
	}
}

// wantName asks of a text whether it is a name, at each part of each kind that must be one.
func wantName(t *testing.T, s string, is bool) {
	t.Helper()
	for _, k := range []impl.Const{
		classConst(s), fieldConst(s, "b"), fieldConst("a", s), fieldConst(s, s), callConst(s, "b"), callConst("a", s), callConst(s, s),
	} {
		if is {
			wantConst(t, k)
			continue
		}
		wantWrongConst(t, k)
		wantNoConstIn(t, rawConst(k))
	}
}

func TestConstConstants(t *testing.T) {
	if impl.PlInt != 1 || impl.PlClass != 2 || impl.PlField != 3 || impl.PlCall != 4 {
		t.Error("kinds")
	}
}

func TestConstOfEachKind(t *testing.T) {
	for _, k := range rightConsts() {
		wantConst(t, k)
	}
}

func TestConstBytes(t *testing.T) {
	for _, c := range []struct {
		k    impl.Const
		want string
	}{
		{intConst(0), "\x01\x00\x00\x00\x00"}, {intConst(1), "\x01\x01\x00\x00\x00"}, {intConst(-5), "\x01\xfb\xff\xff\xff"},
		{intConst(0x12345678), "\x01\x78\x56\x34\x12"}, {intConst(greatestWord), "\x01\xff\xff\xff\x7f"}, {intConst(leastWord), "\x01\x00\x00\x00\x80"},
		{classConst("a"), "\x02\x01a"}, {classConst("Main"), "\x02\x04Main"}, {classConst(longestName), "\x02\x08aZbYcXzA"},
		{fieldConst("Cell", "n"), "\x03\x04Cell\x01n"}, {fieldConst("n", "Cell"), "\x03\x01n\x04Cell"},
		{callConst("Main", "run"), "\x04\x04Main\x03run"}, {callConst(longestName, longestName), "\x04\x08aZbYcXzA\x08aZbYcXzA"},
	} {
		if got := string(impl.ConstBytes(c.k)); got != c.want {
			t.Errorf("ConstBytes(%+v) = %q, want %q", c.k, got, c.want)
		}
		wantConstAt(t, []byte(c.want), 0, c.k, len(c.want))
	}
}

func TestKindsThatAreNoConst(t *testing.T) {
	tails := [][]byte{nil, impl.PutWord(0), impl.PutWord(-5), rawText(""), rawText("a"), slices.Concat(rawText("Cell"), rawText("n"))}
	for _, kind := range []int{0, -1, -impl.PlCall, impl.PlCall + 1, 6, 127, 128, 128 + impl.PlInt, 257, 1<<32 + impl.PlInt, impl.MaxNum, impl.MaxNum + 1, math.MaxInt, math.MinInt} {
		for _, k := range []impl.Const{{}, intConst(7), classConst("a"), fieldConst("a", "b"), callConst("a", "b")} {
			k.Kind = kind
			wantWrongConst(t, k)
		}
		if number := impl.PutNum(kind); len(number) > 0 {
			for _, tail := range tails {
				wantNoConstIn(t, slices.Concat(number, tail))
			}
		}
	}
	// Of the kinds that there are none takes another's parts for its own.
	for kind := impl.PlInt; kind <= impl.PlCall; kind++ {
		for _, k := range []impl.Const{intConst(7), classConst("a"), fieldConst("a", "b"), callConst("a", "b")} {
			names := k.Kind >= impl.PlField
			k.Kind = kind
			if kind == impl.PlInt && k.N == 7 || kind == impl.PlClass && k.A == "a" && !names || kind >= impl.PlField && names {
				wantConst(t, k)
			} else {
				wantWrongConst(t, k)
			}
		}
	}
}

func TestConstWords(t *testing.T) {
	for _, n := range []int{leastWord, leastWord + 1, -1, 0, 1, greatestWord - 1, greatestWord} {
		wantConst(t, intConst(n))
	}
	for _, n := range []int{leastWord - 1, greatestWord + 1, 1<<32 - 1, 1 << 32, 1<<32 + 7, -1 << 32, -1<<32 - 1, math.MaxInt, math.MinInt} {
		wantWrongConst(t, intConst(n))
	}
}

func TestNamesHowLong(t *testing.T) {
	for size := range 3 * impl.MaxName {
		wantName(t, strings.Repeat("m", size), size >= 1 && size <= impl.MaxName)
	}
	for _, size := range []int{127, 128, impl.MaxText - 1, impl.MaxText, impl.MaxText + 1, 256 + impl.MaxName, 1000} {
		wantName(t, strings.Repeat("m", size), false)
	}
	if impl.MaxName != 8 {
		t.Error("limit")
	}
}

func TestNamesByteByByte(t *testing.T) {
	const letters = "abcdefghijklmnopqrstuvwxyzABCDEFGHIJKLMNOPQRSTUVWXYZ"
	for x := range 256 {
		one := string([]byte{byte(x)})
		is := strings.Contains(letters, one)
		for _, s := range []string{one, one + "b", "a" + one, "a" + one + "c", one + "bcdefgh", "abcd" + one + "fgh", "abcdefg" + one} {
			wantName(t, s, is)
		}
		wantName(t, "abcdefgh"+one, false)
		wantName(t, one+"abcdefgh", false)
	}
	for _, s := range []string{"`", "{", "@", "[", "a1", "1a", "a b", " a", "a ", "a.b", "a\x00", "\x00", "a_b", "-a", "\u00e9", "\u017f", "\u212a", "\u0430", "a\xff", "a\n"} {
		wantName(t, s, false)
	}
	for _, s := range []string{"I", "a", "z", "A", "Z", "az", "AZ", "zA", "class", "Main"} {
		wantName(t, s, true)
	}
}

// What is not named is 0 or empty: each kind with some and without any of each part.
func TestPartsThatAKindDoesNotHave(t *testing.T) {
	right := 0
	for kind := -1; kind <= impl.PlCall+1; kind++ {
		for _, n := range []int{0, 1, -1, leastWord, greatestWord, math.MaxInt, 1 << 32} {
			for _, a := range []string{"", "a", longestName, "a1", longestName + "x"} {
				for _, b := range []string{"", "b", longestName, "\x00", longestName + "x"} {
					named := func(s string) bool { return s == "a" || s == "b" || s == longestName }
					is := kind == impl.PlInt && n >= leastWord && n <= greatestWord && a == "" && b == "" ||
						kind == impl.PlClass && n == 0 && named(a) && b == "" ||
						(kind == impl.PlField || kind == impl.PlCall) && n == 0 && named(a) && named(b)
					k := impl.Const{Kind: kind, N: n, A: a, B: b}
					if !is {
						wantWrongConst(t, k)
						continue
					}
					right++
					wantConst(t, k)
				}
			}
		}
	}
	if right != 5+2+4+4 {
		t.Errorf("%d are right", right)
	}
}

func TestConstBytesTellApart(t *testing.T) {
	list := rightConsts()
	for i, a := range list {
		for _, b := range list[:i] {
			if a != b && bytes.HasPrefix(impl.ConstBytes(a), impl.ConstBytes(b)) {
				t.Errorf("ConstBytes(%+v) begins as ConstBytes(%+v)", a, b)
			}
		}
	}
}

// One behind the other, as in the pool of a class: each is read where the one ahead of it ends.
func TestConstsInARow(t *testing.T) {
	list := rightConsts()
	var all []byte
	for _, k := range list {
		all = append(all, impl.ConstBytes(k)...)
	}
	at := 0
	for _, k := range list {
		next := at + len(rawConst(k))
		wantConstAt(t, all, at, k, next)
		at = next
	}
	wantNoConst(t, all, at)
}

func TestConstsCutShort(t *testing.T) {
	for _, k := range rightConsts() {
		b := rawConst(k)
		behind := append([]byte{1, 2, 3}, b...)
		for cut := range b {
			wantNoConst(t, b[:cut:cut], 0)
			// What stands in the spare room does not count.
			wantNoConst(t, b[:cut], 0)
			wantNoConst(t, behind[:3+cut], 3)
		}
	}
	wantNoConst(t, nil, 0)
	wantNoConst(t, []byte{}, 0)
}

func TestPlacesWithoutAConst(t *testing.T) {
	for _, k := range rightConsts() {
		b := rawConst(k)
		for _, list := range [][]byte{b, append(bytes.Clone(b), b...), b[:0], nil} {
			for _, at := range []int{-1, -2, -len(b), -1 << 32, math.MinInt, math.MinInt + 1, len(list), len(list) + 1, 1 << 32, math.MaxInt - 1, math.MaxInt} {
				wantNoConst(t, list, at)
			}
		}
		wantConstAt(t, b, 0, k, len(b))
	}
	// The last place at which one can begin, and the ones around it.
	b := []byte{9, 9, 2, 1, 'a'}
	wantConstAt(t, b, 2, classConst("a"), 5)
	for _, at := range []int{0, 1, 3, 4, 5} {
		wantNoConst(t, b, at)
	}
}

func TestConstOfRefuses(t *testing.T) {
	long := strings.Repeat("y", 400)
	for _, s := range []string{
		"", "\x00", "\x01", "\x02", "\x03", "\x04", "\x05", "\xff",
		// Kind is not the shortest number, or is above MaxNum, or goes on too long.
		"\x81\x00\x05\x00\x00\x00", "\x82\x00\x01a", "\x83\x00\x01a\x01b", "\x84\x80\x00\x01a\x01b", "\x81\x80\x80\x08\x05\x00\x00\x00", "\x81\x80\x80\x80\x00\x05\x00\x00\x00",
		// How long a text is is not the shortest number, or is none.
		"\x02\x81\x00a", "\x02\x81\x80\x00a", "\x02\x80\x00", "\x02\x80", "\x03\x81\x00a\x01b", "\x03\x01a\x81\x00b", "\x04\x01a\x81\x80\x80\x00b", "\x04\x01a\xff\xff\xff\xff\x01",
		// Texts that are no names.
		"\x02\x00", "\x02\x01\x00", "\x02\x02a1", "\x02\x01\xff", "\x03\x00\x01b", "\x03\x01a\x00", "\x04\x00\x00", "\x04\x01a\x01.", "\x04\x01 \x01b",
		"\x02\x09abcdefghi", "\x03\x09abcdefghi\x01b", "\x04\x01a\x09abcdefghi", "\x02\xc8\x01" + long, "\x04\x01a\xc8\x01" + long,
		// Longer than MaxText.
		"\x02\xc9\x01" + long, "\x03\xc9\x01" + long, "\x03\x01a\xc9\x01" + long, "\x04\x01a\x80\x02" + long, "\x02\xff\xff\xff\x07" + long,
		// More than there is.
		"\x01\x00\x00\x00", "\x02\x02a", "\x03\x01a", "\x03\x01a\x02b", "\x04\x02a", "\x04\x01a\x08bcdefgh",
	} {
		wantNoConst(t, []byte(s), 0)
		wantNoConst(t, []byte("\x01\x02\x03"+s), 3)
	}
	wantNoConst(t, bytes.Repeat([]byte{1, 128}, 2500), 1)
	wantNoConst(t, bytes.Repeat([]byte{128}, 5000), 0)
	wantNoConst(t, bytes.Repeat([]byte{2}, 5000), 0)
}

// nameThere and constThere find what stands ahead in b byte by byte, without the program.
func nameThere(b []byte) (string, int) {
	if len(b) == 0 || b[0] < 1 || b[0] > 8 || len(b) <= int(b[0]) {
		return "", 0
	}
	s := string(b[1 : 1+int(b[0])])
	if strings.Trim(s, "abcdefghijklmnopqrstuvwxyzABCDEFGHIJKLMNOPQRSTUVWXYZ") != "" {
		return "", 0
	}
	return s, len(s) + 1
}

func constThere(b []byte) (impl.Const, int, bool) {
	if len(b) == 0 || b[0] < 1 || b[0] > 4 {
		return impl.Const{}, 0, false
	}
	if b[0] == 1 {
		if len(b) < 5 {
			return impl.Const{}, 0, false
		}
		return intConst(int(int32(uint32(b[1]) | uint32(b[2])<<8 | uint32(b[3])<<16 | uint32(b[4])<<24))), 5, true
	}
	k := impl.Const{Kind: int(b[0])}
	next, more := 1, 0
	k.A, more = nameThere(b[next:])
	if more == 0 {
		return impl.Const{}, 0, false
	}
	next += more
	if b[0] == 2 {
		return k, next, true
	}
	k.B, more = nameThere(b[next:])
	if more == 0 {
		return impl.Const{}, 0, false
	}
	return k, next + more, true
}

// wantWhatIsThere tells whether there was one.
func wantWhatIsThere(t *testing.T, b []byte, at int) bool {
	t.Helper()
	k, more, is := constThere(b[at:])
	if !is {
		wantNoConst(t, b, at)
		return false
	}
	wantConstAt(t, b, at, k, at+more)
	if got := impl.ConstBytes(k); !impl.ConstOk(k) || !bytes.Equal(got, b[at:at+more]) {
		t.Fatalf("ConstBytes(%+v) = %q, want %q", k, got, b[at:at+more])
	}
	return true
}

// Whatever stands at one byte: what is read is just what is written so.
func TestConstOfIsJustWhatConstBytesMakes(t *testing.T) {
	read := 0
	for _, k := range rightConsts() {
		whole := rawConst(k)
		for i := range whole {
			for x := range 256 {
				b := append(bytes.Clone(whole), 1, 'q', 3)
				b[i] = byte(x)
				if wantWhatIsThere(t, b, 0) {
					read++
				}
			}
		}
	}
	if read < 10000 {
		t.Errorf("%d read", read)
	}
}

func TestConstOfOfAnyBytes(t *testing.T) {
	t.Parallel()
	const kinds = "\x00\x01\x02\x03\x04\x05\x08\x80azAZ@[`{"
	read := 0
	for i := range 1 << 16 {
		b := make([]byte, 4, 9)
		for k := range b {
			b[k] = kinds[i>>(4*k)&15]
		}
		for _, tail := range []string{"", "b", "\x01bbbb"} {
			for at := range 5 {
				if wantWhatIsThere(t, append(b, tail...), at) {
					read++
				}
			}
		}
	}
	if read < 10000 {
		t.Errorf("%d read", read)
	}
}

// P33: neither the bytes nor the spare room behind them are written.
func TestConstsWriteNothing(t *testing.T) {
	list := append(rightConsts(), classConst(""), classConst("a1"), fieldConst("a", longestName+"x"), callConst("", "b"), callConst("a", strings.Repeat("b", 300)))
	for _, k := range list {
		b, whole := roomy(append(rawConst(k), 128, 0, 255), 9)
		were := bytes.Clone(whole)
		for end := range len(b) + 1 {
			for at := -2; at <= len(b)+2; at++ {
				impl.ConstOf(b[:end], at)
			}
			impl.ConstOf(b[:end], math.MaxInt)
		}
		impl.ConstOk(k)
		impl.ConstBytes(k)
		if !bytes.Equal(whole, were) {
			t.Fatalf("the bytes of %+v are written into", k)
		}
	}
}

func TestConstsAreNewMemory(t *testing.T) {
	for _, k := range rightConsts() {
		first, second := impl.ConstBytes(k), impl.ConstBytes(k)
		spoilAll(first, 77)
		if !bytes.Equal(second, rawConst(k)) || !bytes.Equal(impl.ConstBytes(k), second) {
			t.Fatalf("ConstBytes(%+v) twice shares memory", k)
		}
		got, _, _ := impl.ConstOf(second, 0)
		again, _, _ := impl.ConstOf(second, 0)
		spoilAll(second, 77)
		if got != k || again != k {
			t.Fatalf("the const %+v shares memory with the bytes that it was read from", k)
		}
	}
}

// Whatever was asked ahead of it, right or wrong: the answer is the same.
func TestConstsKeepNothing(t *testing.T) {
	list := rightConsts()
	for i, k := range list {
		for _, other := range []impl.Const{list[(i*7+3)%len(list)], {}, intConst(1 << 40), classConst("a1"), {Kind: impl.PlField, N: 5, A: "x", B: "y"}, {Kind: 9, N: 1, A: "a", B: "b"}} {
			impl.ConstOk(other)
			impl.ConstBytes(other)
			impl.ConstOf(rawConst(other), 0)
			impl.ConstOf([]byte("\x03\x04Left\x04ove"), 0)
			wantConst(t, k)
			wantWrongConst(t, impl.Const{Kind: k.Kind, N: k.N, A: k.A + "1", B: k.B})
			wantNoConst(t, []byte{4, 1, 'a'}, 0)
		}
	}
}
