// Package leb is layer 1: see shared/doc/01-leb.md.
package leb

import (
	"math/bits"

	"geode/api"
)

const (
	places  = 7    // how many places of the number a byte has
	own     = 0x7f // those places, in the byte
	more    = 0x80 // set, if more bytes come
	maxBits = 64
	maxLen  = (maxBits + places - 1) / places
)

// integer is every kind of whole number there is.
type integer interface {
	~int | ~int8 | ~int16 | ~int32 | ~int64 |
		~uint | ~uint8 | ~uint16 | ~uint32 | ~uint64 | ~uintptr
}

// U reads an unsigned number.
func U(b []byte, at, bits int) (uint64, int, api.Errno) {
	return read(b, at, bits, false)
}

// S reads a signed number.
func S(b []byte, at, bits int) (int64, int, api.Errno) {
	n, next, e := read(b, at, bits, true)
	return int64(n), next, e
}

// PutU is an unsigned number's shortest bytes.
func PutU(n uint64) []byte { return put(n) }

// PutS is a signed number's shortest bytes.
func PutS(n int64) []byte { return put(n) }

// Len is how many bytes PutU tells.
func Len(n uint64) int {
	// Nothing has no bits, but takes a byte all the same.
	return (bits.Len64(n|1) + places - 1) / places
}

// read tells a signed number as the word that is its two's complement, so that one reader serves both.
func read(b []byte, at, bits int, signed bool) (uint64, int, api.Errno) {
	var n uint64
	var e api.Errno
	if bits < 1 || bits > maxBits || at < 0 || at > len(b) {
		e = api.ErrArg
		goto fail
	}
	for place := 0; ; place += places {
		if at == len(b) {
			e = api.ErrEnd
			goto fail
		}
		x := b[at]
		at++
		if !fits(x&own, bits-place, signed) {
			e = api.ErrWide
			goto fail
		}
		n |= uint64(x&own) << place
		if x&more == 0 {
			return extend(n, place+places, signed), at, api.OK
		}
		if place+places >= bits {
			e = api.ErrWide
			goto fail
		}
	}
fail:
	return 0, 0, e
}

// fits says whether the places of x beyond its lowest left ones are as they must be.
func fits(x byte, left int, signed bool) bool {
	if !signed {
		return x>>left == 0
	}
	// The number's highest bit stands in the last place that is left: those beyond must all be like it.
	top := left - 1
	return x>>top == 0 || x>>top == own>>top
}

// extend repeats a signed number's highest place read in all the places beyond.
func extend(n uint64, read int, signed bool) uint64 {
	if signed && n>>(read-1)&1 == 1 {
		n |= ^uint64(0) << read
	}
	return n
}

// put writes any integer with the fewest bytes.
func put[N integer](n N) []byte {
	// A signed number's last byte must show its sign, too, and so has a place less for the rest.
	free := places
	if ^N(0) < 0 {
		free--
	}
	out := make([]byte, 0, maxLen)
	for !only(n >> free) {
		out = append(out, byte(n)&own|more)
		n >>= places
	}
	return append(out, byte(n)&own)
}

// only says whether there is nothing left but the sign.
func only[N integer](rest N) bool { return rest == 0 || rest == ^N(0) }
