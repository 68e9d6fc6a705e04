package impl

import "errors"

const (
	MaxNum  = 16777215
	MaxText = 200
	MaxName = 8
)

// MaxNum has 24 bits, and a byte carries seven: a number that goes on behind so many bytes is none.
const numBytes = 4

const wordBytes = 4

// What a reader panics with where nothing stands that it could read; readAt makes a false of it.
var errNone = errors.New("nothing stands there")

func PutNum(n int) []byte {
	if n < 0 || n > MaxNum {
		return nil
	}
	var out []byte
	for n > 127 {
		out = append(out, byte(n%128+128))
		n /= 128
	}
	return append(out, byte(n))
}

func GetNum(b []byte, at int) (int, int, bool) { return readAt(b, at, takeNum) }

func PutWord(n int) []byte {
	if Round(n) != n {
		return nil
	}
	return []byte{byte(n), byte(n >> 8), byte(n >> 16), byte(n >> 24)}
}

func GetWord(b []byte, at int) (int, int, bool) { return readAt(b, at, takeWord) }

func PutText(s string) []byte {
	if len(s) > MaxText {
		return nil
	}
	return append(PutNum(len(s)), s...)
}

func GetText(b []byte, at int) (string, int, bool) { return readAt(b, at, takeText) }

func Round(n int) int { return int(int32(n)) }

// readAt is the one face of all readers: they go on by a pointer to a place of its own,
// so that what a reader did ahead of its panic is seen by nobody.
func readAt[T any](b []byte, at int, take func([]byte, *int) T) (value T, next int, ok bool) {
	defer func() {
		if recover() != nil {
			var none T
			value, next, ok = none, 0, false
		}
	}()
	place := at
	value = take(b, &place)
	return value, place, true
}

func takeByte(b []byte, at *int) int {
	if *at < 0 || *at >= len(b) {
		panic(errNone)
	}
	x := b[*at]
	*at++
	return int(x)
}

func takeNum(b []byte, at *int) int {
	n, weight := 0, 1
	for range numBytes {
		x := takeByte(b, at)
		n += x % 128 * weight
		if x < 128 {
			// A last byte 0 behind others adds nothing: without it the number would be shorter.
			if n > MaxNum || x == 0 && weight > 1 {
				panic(errNone)
			}
			return n
		}
		weight *= 128
	}
	panic(errNone)
}

func takeWord(b []byte, at *int) int {
	n, weight := 0, 1
	for range wordBytes {
		n += takeByte(b, at) * weight
		weight *= 256
	}
	return Round(n)
}

func takeText(b []byte, at *int) string {
	size := takeNum(b, at)
	if size > MaxText || size > len(b)-*at {
		panic(errNone)
	}
	from := *at
	*at += size
	return string(b[from:*at])
}
