package tests

import (
	"bytes"
	"fmt"
	"math"
	"slices"
	"testing"

	"loop.example/g00283/impl"
)

func ins(op, n int) impl.Ins { return impl.Ins{Op: op, N: n} }

func push(n int) impl.Ins { return ins(impl.OpPush, n) }

func jump(n int) impl.Ins { return ins(impl.OpGoto, n) }

func bare(op int) impl.Ins { return ins(op, 0) }

func ret() impl.Ins { return bare(impl.OpReturn) }

// numberedOps: the ops that have an N, with the least and the most of it; of a jump only the least is known by the op.
var numberedOps = map[int][2]int{
	1: {-128, 127},
	2: {0, 23}, 9: {0, 23}, 10: {0, 23}, 11: {0, 23}, 12: {0, 23},
	3: {0, 5}, 4: {0, 5},
	13: {0, math.MaxInt}, 14: {0, math.MaxInt},
}

func isJump(op int) bool { return op == 13 || op == 14 }

// insRight and codeRight ask for code without the program.
func insRight(x impl.Ins, places int) bool {
	limits, has := numberedOps[x.Op]
	if !has {
		return x.Op >= 1 && x.Op <= 24 && x.N == 0
	}
	return x.N >= limits[0] && x.N <= limits[1] && (!isJump(x.Op) || x.N < places)
}

func codeSize(list []impl.Ins) int {
	size := len(list)
	for _, x := range list {
		if _, has := numberedOps[x.Op]; has {
			size++
		}
	}
	return size
}

func codeRight(list []impl.Ins) bool {
	if len(list) < 1 || len(list) > 90 || codeSize(list) > 90 {
		return false
	}
	for _, x := range list {
		if !insRight(x, len(list)) {
			return false
		}
	}
	last := list[len(list)-1].Op
	return last == 14 || last == 19
}

// rawCode writes code down whether it is right or not, the low bits alone of what is too great for a byte;
// a jump to where there is no place is written as one to the byte behind the last one.
func rawCode(list []impl.Ins) []byte {
	var out []byte
	for _, x := range list {
		out = append(out, byte(x.Op))
		if _, has := numberedOps[x.Op]; !has {
			continue
		}
		switch {
		case isJump(x.Op) && x.N >= 0 && x.N < len(list):
			out = append(out, byte(codeSize(list[:x.N])))
		case isJump(x.Op):
			out = append(out, byte(codeSize(list)))
		case x.Op == 1:
			out = append(out, byte(x.N+128))
		default:
			out = append(out, byte(x.N))
		}
	}
	return out
}

// codeThere reads code without the program: place by place, and then where each jump goes.
func codeThere(b []byte) ([]impl.Ins, bool) {
	places := map[int]int{}
	var list []impl.Ins
	for at := 0; at < len(b); at++ {
		places[at] = len(list)
		x := impl.Ins{Op: int(b[at])}
		if _, has := numberedOps[x.Op]; has {
			at++
			if at == len(b) {
				return nil, false
			}
			x.N = int(b[at])
		}
		if x.Op == 1 {
			x.N -= 128
		}
		list = append(list, x)
	}
	for i, x := range list {
		if isJump(x.Op) {
			place, is := places[x.N]
			if !is {
				return nil, false
			}
			list[i].N = place
		}
	}
	if !codeRight(list) {
		return nil, false
	}
	return list, true
}

// wantNoCode: beside the false stands nothing of what was read ahead of the fault.
func wantNoCode(t *testing.T, b []byte) {
	t.Helper()
	if list, ok := impl.Decode(b); ok || len(list) != 0 {
		t.Fatalf("Decode(%q) = %v, %v; want none", b, list, ok)
	}
}

// wantCodeThere tells whether there was some.
func wantCodeThere(t *testing.T, b []byte) bool {
	t.Helper()
	want, is := codeThere(b)
	if !is {
		wantNoCode(t, b)
		return false
	}
	if got, ok := impl.Decode(b); !ok || !slices.Equal(got, want) {
		t.Fatalf("Decode(%q) = %v, %v; want %v", b, got, ok, want)
	}
	if got := impl.Encode(want); !impl.CodeOk(want) || !bytes.Equal(got, b) {
		t.Fatalf("Encode(%v) = %q, want %q", want, got, b)
	}
	return true
}

func wantCode(t *testing.T, list []impl.Ins) {
	t.Helper()
	if !impl.CodeOk(list) {
		t.Fatalf("CodeOk(%v) is false", list)
	}
	b := impl.Encode(list)
	if want := rawCode(list); !bytes.Equal(b, want) {
		t.Fatalf("Encode(%v) = %q, want %q", list, b, want)
	}
	if got, ok := impl.Decode(b); !ok || !slices.Equal(got, list) {
		t.Fatalf("Decode(%q) = %v, %v; want %v", b, got, ok, list)
	}
}

// wantWrongCode: its bytes, if anyone wrote them, are those of other code, or of none.
func wantWrongCode(t *testing.T, list []impl.Ins) {
	t.Helper()
	if impl.CodeOk(list) {
		t.Fatalf("CodeOk(%v) is true", list)
	}
	if b := impl.Encode(list); len(b) != 0 {
		t.Fatalf("Encode(%v) = %q", list, b)
	}
	wantCodeThere(t, rawCode(list))
}

func wantCodeIf(t *testing.T, right bool, list ...impl.Ins) {
	t.Helper()
	if right != codeRight(list) {
		t.Fatalf("%v: a test asks for %v", list, right)
	}
	if right {
		wantCode(t, list)
	} else {
		wantWrongCode(t, list)
	}
}

// wantAnywhere asks for a place as the first, a midst and the last one ahead of an OpReturn.
func wantAnywhere(t *testing.T, right bool, x impl.Ins) {
	t.Helper()
	wantCodeIf(t, right, x, ret())
	wantCodeIf(t, right, x, push(1), bare(impl.OpPop), ret())
	wantCodeIf(t, right, push(1), x, bare(impl.OpPop), ret())
	wantCodeIf(t, right, push(1), bare(impl.OpPop), x, ret())
}

// eachOp: code with each op, in the order of their numbers, and jumps to where places of both sizes begin.
func eachOp() []impl.Ins {
	var list []impl.Ins
	for op := impl.OpPush; op <= impl.OpLess; op++ {
		list = append(list, bare(op))
	}
	list[impl.OpPush-1].N = -7
	list[impl.OpConst-1].N = 23
	list[impl.OpLoad-1].N = 5
	list[impl.OpStore-1].N = 1
	list[impl.OpNew-1].N = 2
	list[impl.OpGet-1].N = 3
	list[impl.OpPut-1].N = 4
	list[impl.OpCall-1].N = 5
	list[impl.OpZero-1].N = 24
	list[impl.OpGoto-1].N = 7
	return append(list, ret())
}

// manyPlaces: n places, each op by turns where there is room, so that they have size bytes; the last one is an OpReturn.
func manyPlaces(n, size int) []impl.Ins {
	numbered := []int{impl.OpZero, impl.OpPush, impl.OpLoad, impl.OpGoto, impl.OpCall, impl.OpConst, impl.OpStore, impl.OpGet, impl.OpPut, impl.OpNew}
	others := []int{impl.OpAdd, impl.OpDup, impl.OpLess, impl.OpReturn, impl.OpNull, impl.OpJoin}
	var list []impl.Ins
	for i := range n - 1 {
		switch op := numbered[i%len(numbered)]; {
		case i >= size-n:
			list = append(list, bare(others[i%len(others)]))
		case isJump(op):
			list = append(list, ins(op, (i*7+n-1)%n))
		default:
			list = append(list, ins(op, i%impl.MaxLocals))
		}
	}
	return append(list, ret())
}

func rightCodes() [][]impl.Ins {
	list := [][]impl.Ins{
		{ret()}, {jump(0)}, eachOp(), {ret(), ret()}, {jump(1), jump(0)}, {jump(1), jump(1)},
		{push(-128), push(127), push(0), push(-1), bare(impl.OpAdd), ret()},
		{ins(impl.OpZero, 2), bare(impl.OpNull), ins(impl.OpZero, 0), jump(3)},
		slices.Repeat([]impl.Ins{ret()}, impl.MaxCode), slices.Repeat([]impl.Ins{jump(44)}, impl.MaxCode/2),
		append(slices.Repeat([]impl.Ins{bare(impl.OpDup)}, impl.MaxCode-2), jump(impl.MaxCode-2)),
	}
	for n := 1; n <= impl.MaxCode; n++ {
		list = append(list, manyPlaces(n, min(2*n-1, impl.MaxCode)), manyPlaces(n, min(n+n/3, impl.MaxCode)))
	}
	return list
}

func TestOpNumbers(t *testing.T) {
	for i, op := range []int{
		impl.OpPush, impl.OpConst, impl.OpLoad, impl.OpStore, impl.OpAdd, impl.OpSub, impl.OpMul, impl.OpNull, impl.OpNew, impl.OpGet, impl.OpPut, impl.OpCall,
		impl.OpZero, impl.OpGoto, impl.OpSame, impl.OpEnter, impl.OpExit, impl.OpPrint, impl.OpReturn, impl.OpStart, impl.OpJoin, impl.OpPop, impl.OpDup, impl.OpLess,
	} {
		if op != i+1 {
			t.Errorf("op %d is %d", i+1, op)
		}
	}
}

// opsToAsk: each op, what is near them, and what is one of them by its low bits alone.
func opsToAsk() []int {
	var list []int
	for op := -300; op <= 600; op++ {
		list = append(list, op)
	}
	for op := range 26 {
		list = append(list, op+1<<16, op+1<<32, op+1<<62, op-1<<32, math.MinInt+op, math.MaxInt-op)
	}
	return list
}

func TestHas(t *testing.T) {
	many := 0
	for _, op := range opsToAsk() {
		_, want := numberedOps[op]
		if impl.Has(op) != want {
			t.Errorf("Has(%d) = %v", op, !want)
		}
		if want {
			many++
		}
	}
	if many != 10 {
		t.Errorf("%d have an N", many)
	}
}

func TestCodeBytes(t *testing.T) {
	for _, x := range []struct {
		list []impl.Ins
		want string
	}{
		{[]impl.Ins{ret()}, "\x13"},
		{[]impl.Ins{jump(0)}, "\x0e\x00"},
		{[]impl.Ins{push(-128), push(-1), push(0), push(127), ret()}, "\x01\x00\x01\x7f\x01\x80\x01\xff\x13"},
		{[]impl.Ins{bare(impl.OpNull), push(1), jump(1)}, "\x08\x01\x81\x0e\x01"},
		{[]impl.Ins{push(1), ins(impl.OpZero, 3), push(2), bare(impl.OpPrint), jump(4)}, "\x01\x81\x0d\x06\x01\x82\x12\x0e\x07"},
		{[]impl.Ins{ins(impl.OpConst, 23), ins(impl.OpNew, 0), ins(impl.OpGet, 9), ins(impl.OpPut, 10), ins(impl.OpCall, 22), ret()}, "\x02\x17\x09\x00\x0a\x09\x0b\x0a\x0c\x16\x13"},
		{[]impl.Ins{ins(impl.OpLoad, 0), ins(impl.OpStore, 5), ret()}, "\x03\x00\x04\x05\x13"},
		{eachOp(), "\x01\x79\x02\x17\x03\x05\x04\x01\x05\x06\x07\x08\x09\x02\x0a\x03\x0b\x04\x0c\x05\x0d\x22\x0e\x0b\x0f\x10\x11\x12\x13\x14\x15\x16\x17\x18\x13"},
	} {
		if got := string(impl.Encode(x.list)); got != x.want {
			t.Errorf("Encode(%v) = %q, want %q", x.list, got, x.want)
		}
		if got, ok := impl.Decode([]byte(x.want)); !ok || !slices.Equal(got, x.list) {
			t.Errorf("Decode(%q) = %v, %v", x.want, got, ok)
		}
	}
}

// P8: what is put is read as it was.
func TestCodeIsPutAndRead(t *testing.T) {
	for _, list := range rightCodes() {
		wantCodeIf(t, true, list...)
		if !wantCodeThere(t, rawCode(list)) {
			t.Fatalf("%v is none", list)
		}
	}
}

func TestCodeOfOnePlace(t *testing.T) {
	for _, op := range opsToAsk() {
		wantCodeIf(t, op == impl.OpReturn || op == impl.OpGoto, bare(op))
		wantCodeIf(t, false, ins(op, 1))
		wantCodeIf(t, false, ins(op, -1))
	}
	wantCodeIf(t, false)
	wantCodeIf(t, false, impl.Ins{})
	if impl.CodeOk([]impl.Ins{}) || len(impl.Encode([]impl.Ins{})) != 0 {
		t.Error("no place is code")
	}
	wantNoCode(t, nil)
	wantNoCode(t, []byte{})
}

func TestOpsThereAre(t *testing.T) {
	for _, op := range opsToAsk() {
		wantAnywhere(t, op >= 1 && op <= 24, bare(op))
	}
}

func numbersToAsk() []int {
	var list []int
	for n := -300; n <= 300; n++ {
		list = append(list, n)
	}
	for _, n := range []int{-128, -1, 0, 1, 3, 5, 23, 127, 128} {
		list = append(list, n+1<<16, n+1<<32, n-1<<32, n+1<<62)
	}
	return append(list, math.MaxInt, math.MaxInt-1, math.MaxInt-127, math.MaxInt-128, math.MinInt, math.MinInt+1, math.MinInt+128, math.MinInt+129)
}

// Each op with each number: a jump is asked for in TestJumps.
func TestNumbersOfOps(t *testing.T) {
	for op := 1; op <= 24; op++ {
		limits := numberedOps[op]
		for _, n := range numbersToAsk() {
			if !isJump(op) {
				wantAnywhere(t, n >= limits[0] && n <= limits[1], ins(op, n))
			}
		}
	}
	for _, x := range []struct {
		op, n int
		right bool
	}{
		{impl.OpPush, -129, false}, {impl.OpPush, -128, true}, {impl.OpPush, 127, true}, {impl.OpPush, 128, false},
		{impl.OpConst, -1, false}, {impl.OpNew, 0, true}, {impl.OpGet, impl.MaxPool - 1, true}, {impl.OpPut, impl.MaxPool, false}, {impl.OpCall, impl.MaxPool, false},
		{impl.OpLoad, -1, false}, {impl.OpStore, 0, true}, {impl.OpLoad, impl.MaxLocals - 1, true}, {impl.OpStore, impl.MaxLocals, false},
		{impl.OpAdd, 1, false}, {impl.OpNull, -1, false}, {impl.OpReturn, 1, false}, {impl.OpLess, 256, false}, {impl.OpPop, 1 << 32, false},
	} {
		wantAnywhere(t, x.right, ins(x.op, x.n))
	}
}

// The last place has its N, too.
func TestNumbersOfTheLastPlace(t *testing.T) {
	for _, n := range numbersToAsk() {
		wantCodeIf(t, n == 0, ins(impl.OpReturn, n))
		wantCodeIf(t, n == 0, push(1), ins(impl.OpReturn, n))
		wantCodeIf(t, n == 0, jump(n))
		wantCodeIf(t, n == 0 || n == 1, push(1), jump(n))
	}
}

// A jump of each place to each place, and to what is none, in code whose places are of both sizes.
func TestJumps(t *testing.T) {
	t.Parallel()
	for _, whole := range [][]impl.Ins{{ret()}, {ret(), ret()}, eachOp(), manyPlaces(3, 5), manyPlaces(12, 17), manyPlaces(40, 70)} {
		for i := range whole {
			for _, op := range []int{impl.OpZero, impl.OpGoto} {
				list := slices.Clone(whole)
				for _, n := range append(numbersToAsk(), len(list)-1, len(list)) {
					list[i] = ins(op, n)
					wantCodeIf(t, n >= 0 && n < len(list) && list[len(list)-1].Op != impl.OpZero, list...)
				}
			}
		}
	}
}

func TestLastPlaces(t *testing.T) {
	for op := range 30 {
		is := op == impl.OpGoto || op == impl.OpReturn
		wantCodeIf(t, is, ret(), bare(op))
		wantCodeIf(t, is, push(5), jump(1), bare(op))
		wantCodeIf(t, is, append(slices.Repeat([]impl.Ins{bare(impl.OpAdd)}, 50), bare(op))...)
	}
}

func TestHowManyPlaces(t *testing.T) {
	for n := range 2 * impl.MaxCode {
		wantCodeIf(t, n >= 1 && n <= impl.MaxCode, slices.Repeat([]impl.Ins{ret()}, n)...)
		wantCodeIf(t, n >= 1 && 2*n <= impl.MaxCode, slices.Repeat([]impl.Ins{jump(0)}, n)...)
		wantCodeIf(t, 2*n+1 <= impl.MaxCode, append(slices.Repeat([]impl.Ins{push(n - 128)}, n), ret())...)
		wantCodeIf(t, n+2 <= impl.MaxCode, append(slices.Repeat([]impl.Ins{bare(impl.OpDup)}, n), jump(n))...)
		wantCodeIf(t, n+3 <= impl.MaxCode, append(slices.Repeat([]impl.Ins{bare(impl.OpDup)}, n), ins(impl.OpLoad, 1), ret())...)
	}
}

// Bytes of MaxCode and one more, by how many places there are.
func TestHowManyBytes(t *testing.T) {
	for n := 46; n <= impl.MaxCode; n++ {
		list := manyPlaces(n, impl.MaxCode)
		if len(rawCode(list)) != impl.MaxCode {
			t.Fatalf("%d places have %d bytes", n, len(rawCode(list)))
		}
		wantCodeIf(t, true, list...)
		wantCodeIf(t, false, manyPlaces(n, impl.MaxCode+1)...)
		wantCodeIf(t, false, append([]impl.Ins{bare(impl.OpPop)}, list...)...)
		wantCodeIf(t, false, append(list, ret())...)
	}
	for size := impl.MaxCode + 1; size < 300; size++ {
		wantNoCode(t, bytes.Repeat([]byte{impl.OpReturn}, size))
		wantNoCode(t, append(bytes.Repeat([]byte{impl.OpPush, 5}, size/2), impl.OpReturn))
	}
}

// P8: cut short at each place, also where the rest stands in the spare room, and with a byte behind the end.
func TestCodeCutShort(t *testing.T) {
	t.Parallel()
	for _, list := range rightCodes() {
		b := rawCode(list)
		for cut := range b {
			wantCodeThere(t, b[:cut:cut])
			wantCodeThere(t, b[:cut])
			wantCodeThere(t, b[cut:])
		}
		for x := range 256 {
			longer := append(bytes.Clone(b), byte(x))
			if right := wantCodeThere(t, longer); right && x != impl.OpReturn {
				t.Fatalf("%q is code", longer)
			}
		}
		wantCodeThere(t, slices.Concat(b, b))
	}
	last := []impl.Ins{push(1), ins(impl.OpLoad, 0), bare(impl.OpAdd), ins(impl.OpCall, 19), ins(impl.OpZero, 4), ret()}
	for _, list := range [][]impl.Ins{last, append(last[:4:4], jump(4)), manyPlaces(3, 5)} {
		b := rawCode(list)
		for cut := range b {
			wantNoCode(t, b[:cut:cut])
			wantNoCode(t, b[:cut])
		}
		wantCode(t, list)
	}
}

// A byte that is no op, in place of each place and ahead of it.
func TestBytesThatAreNoOp(t *testing.T) {
	for _, list := range [][]impl.Ins{{ret()}, {jump(0)}, eachOp(), manyPlaces(20, 30)} {
		for i := range list {
			at := codeSize(list[:i])
			for x := range 256 {
				if x >= impl.OpPush && x <= impl.OpLess {
					continue
				}
				b := rawCode(list)
				wantNoCode(t, slices.Insert(bytes.Clone(b), at, byte(x)))
				b[at] = byte(x)
				wantNoCode(t, b)
			}
		}
	}
}

// Each byte as where a jump goes: where a place begins it is one, in the midst, behind the last one and beyond it is none.
func TestJumpsIntoTheMidst(t *testing.T) {
	for _, list := range [][]impl.Ins{{jump(0)}, {push(19), jump(1)}, eachOp(), manyPlaces(12, 17), manyPlaces(46, 90)} {
		begins := map[int]int{}
		for i := range list {
			begins[codeSize(list[:i])] = i
		}
		for i, x := range list {
			if !isJump(x.Op) {
				continue
			}
			for to := range 256 {
				b := rawCode(list)
				b[codeSize(list[:i])+1] = byte(to)
				want := slices.Clone(list)
				place, is := begins[to]
				want[i].N = place
				if !is {
					wantNoCode(t, b)
				} else if got, ok := impl.Decode(b); !ok || !slices.Equal(got, want) {
					t.Fatalf("Decode(%q) = %v, %v; want %v", b, got, ok, want)
				}
			}
		}
	}
	for _, s := range []string{
		"\x0e\x01", "\x0e\x02", "\x0e\xff", "\x13\x0e\x02", "\x13\x0e\x03", "\x0e\x03\x13", "\x0d\x01\x13", "\x0d\x03\x13",
		"\x01\x13\x0e\x01", "\x0d\x03\x01\x13\x13", "\x03\x01\x0e\x01", "\x0c\x0e\x0e\x01", "\x0e\x03\x02\x13\x13", "\x0d\x80\x13", "\x0e\x5a", "\x0e\x5b",
	} {
		wantNoCode(t, []byte(s))
	}
}

func TestBytesOfNumbers(t *testing.T) {
	for op, limits := range numberedOps {
		for x := range 256 {
			for _, b := range [][]byte{{byte(op), byte(x), 19}, {8, byte(op), byte(x), 5, 14, 1}} {
				right := wantCodeThere(t, b)
				if !isJump(op) && right != (op == 1 || x <= limits[1]) {
					t.Fatalf("%q: %v", b, right)
				}
			}
		}
	}
	for _, s := range []string{"\x03\x06\x13", "\x04\x06\x13", "\x03\xff\x13", "\x02\x18\x13", "\x09\x18\x13", "\x0a\x18\x13", "\x0b\x18\x13", "\x0c\x18\x13", "\x0c\xff\x13"} {
		wantNoCode(t, []byte(s))
	}
}

// Whatever stands at one byte, is left out or put in: what is read is just what is written so.
func TestDecodeIsJustWhatEncodeMakes(t *testing.T) {
	t.Parallel()
	read := 0
	for _, list := range [][]impl.Ins{{ret()}, {jump(0)}, {push(1), ret()}, eachOp(), manyPlaces(12, 17), manyPlaces(46, 90), slices.Repeat([]impl.Ins{ret()}, impl.MaxCode)} {
		whole := rawCode(list)
		for i := range whole {
			wantCodeThere(t, slices.Delete(bytes.Clone(whole), i, i+1))
			for x := range 256 {
				b := bytes.Clone(whole)
				b[i] = byte(x)
				if wantCodeThere(t, b) {
					read++
				}
				wantCodeThere(t, slices.Insert(bytes.Clone(whole), i, byte(x)))
			}
		}
	}
	if read < 5000 {
		t.Errorf("%d read", read)
	}
}

func TestDecodeOfAnyBytes(t *testing.T) {
	t.Parallel()
	const kinds = "\x00\x01\x02\x03\x05\x0d\x0e\x13\x18\x19"
	read := 0
	for i := range 10 * 10 * 10 * 10 * 10 {
		var b []byte
		for n, k := i, 0; k < 5; k++ {
			b = append(b, kinds[n%10])
			n /= 10
		}
		for from := range 5 {
			if wantCodeThere(t, b[from:]) {
				read++
			}
		}
	}
	for x := range 256 * 256 {
		if wantCodeThere(t, []byte{byte(x), byte(x / 256)}) {
			read++
		}
	}
	if read < 10000 {
		t.Errorf("%d read", read)
	}
}

// Two codes that are not the same have bytes that are not.
func TestEncodeTellsApart(t *testing.T) {
	seen := map[string][]impl.Ins{}
	for _, list := range rightCodes() {
		b := string(impl.Encode(list))
		if other, was := seen[b]; was && !slices.Equal(other, list) {
			t.Errorf("Encode(%v) and Encode(%v) are alike", list, other)
		}
		seen[b] = list
	}
}

// P33: what is far too much is answered, too.
func TestCodeThatIsFarTooGreat(t *testing.T) {
	const many = 1 << 20
	for _, x := range []impl.Ins{{}, ret(), jump(0), jump(many - 1), push(1), ins(math.MaxInt, math.MinInt), ins(math.MinInt, math.MaxInt)} {
		list := slices.Repeat([]impl.Ins{x}, many)
		if impl.CodeOk(list) || len(impl.Encode(list)) != 0 {
			t.Errorf("%v, %d times, is code", x, many)
		}
	}
	for x := range 256 {
		wantNoCode(t, bytes.Repeat([]byte{byte(x)}, many))
	}
	for _, n := range []int{math.MaxInt, math.MinInt, math.MaxInt - 1, math.MinInt + 1} {
		for _, m := range []int{math.MaxInt, math.MinInt, 0, -1, 1} {
			wantAnywhere(t, false, ins(n, m))
			wantCodeIf(t, false, ret(), ins(n, m))
		}
	}
}

// codesForMemory: right and wrong ones, of which nothing may be written into.
func codesForMemory() [][]impl.Ins {
	list := append(rightCodes(), nil, []impl.Ins{{}}, []impl.Ins{push(1)}, []impl.Ins{jump(1)}, []impl.Ins{jump(-1)},
		[]impl.Ins{push(128), jump(0)}, []impl.Ins{ins(impl.OpAdd, 7), ret()}, []impl.Ins{ins(impl.OpLoad, 6), ret()}, []impl.Ins{ins(impl.OpGet, 24), ret()},
		[]impl.Ins{ins(25, 3), ret()}, []impl.Ins{ins(0, 3), ret()}, []impl.Ins{push(3), bare(math.MaxInt), ret()}, []impl.Ins{ret(), ret(), bare(impl.OpDup)})
	for n := impl.MaxCode; n < impl.MaxCode+4; n++ {
		list = append(list, slices.Repeat([]impl.Ins{jump(2)}, n), manyPlaces(n, n+1))
	}
	return list
}

// P33: neither the places, nor the bytes, nor the spare room behind them are written.
func TestCodeWritesNothing(t *testing.T) {
	for _, list := range codesForMemory() {
		given, whole := roomy(list, ins(impl.OpGoto, 77))
		were := slices.Clone(whole)
		impl.CodeOk(given)
		impl.Encode(given)
		if !slices.Equal(whole, were) {
			t.Fatalf("%v is written into", list)
		}
		b, wholeBytes := roomy(rawCode(list), impl.OpReturn)
		bytesWere := bytes.Clone(wholeBytes)
		for end := range len(b) + 1 {
			impl.Decode(b[:end])
		}
		if !bytes.Equal(wholeBytes, bytesWere) {
			t.Fatalf("the bytes of %v are written into", list)
		}
	}
}

// What stands in the spare room does not count.
func TestSpareRoomBehindCode(t *testing.T) {
	for _, list := range codesForMemory() {
		for _, spare := range []impl.Ins{{}, ret(), jump(0), ins(99, 99)} {
			given, _ := roomy(list, spare)
			if impl.CodeOk(given) != codeRight(list) || !bytes.Equal(impl.Encode(given), impl.Encode(slices.Clip(slices.Clone(list)))) {
				t.Fatalf("%v hangs on the room behind it", list)
			}
		}
		for _, spare := range []byte{0, 1, 14, 19, 255} {
			b, _ := roomy(rawCode(list), spare)
			wantCodeThere(t, b)
		}
	}
}

// P33: an answer shares no memory with an argument, nor with another answer.
func TestCodeIsNewMemory(t *testing.T) {
	for _, list := range rightCodes() {
		given := slices.Clone(list)
		first, second := impl.Encode(given), impl.Encode(given)
		spoilAll(first, 77)
		if !slices.Equal(given, list) || !bytes.Equal(second, rawCode(list)) {
			t.Fatalf("Encode(%v) shares memory", list)
		}
		spoilAll(given, ins(55, 55))
		if !bytes.Equal(second, rawCode(list)) {
			t.Fatalf("Encode(%v) shares memory with the places", list)
		}
		got, _ := impl.Decode(second)
		again, _ := impl.Decode(second)
		spoilAll(got, ins(55, 55))
		if !bytes.Equal(second, rawCode(list)) || !slices.Equal(again, list) {
			t.Fatalf("Decode the bytes of %v shares memory", list)
		}
		spoilAll(second, 77)
		if !slices.Equal(again, list) {
			t.Fatalf("%v shares memory with the bytes that it was read from", list)
		}
	}
}

// Whatever was asked ahead of it, right or wrong: the answer is the same.
func TestCodeKeepsNothing(t *testing.T) {
	list := codesForMemory()
	var were []string
	tell := func(code []impl.Ins) string {
		b := rawCode(code)
		got, ok := impl.Decode(b)
		_, cut := impl.Decode(b[:len(b)/2])
		return fmt.Sprintf("%v %q %v %v %v %v", impl.CodeOk(code), impl.Encode(code), got, ok, cut, impl.Has(len(code)))
	}
	for _, code := range list {
		were = append(were, tell(code))
	}
	for _, step := range []int{1, 7, 11, len(list) - 1} {
		for i := range list {
			at := i * step % len(list)
			if now := tell(list[at]); now != were[at] {
				t.Fatalf("%v: now %s, ahead of it %s", list[at], now, were[at])
			}
		}
	}
	for _, code := range rightCodes() {
		impl.Decode([]byte("\x01\x05\x0e\x01"))
		impl.CodeOk([]impl.Ins{push(5), jump(3)})
		wantCode(t, code)
	}
}
