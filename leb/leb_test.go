package leb

import (
	"bytes"
	"math"
	"testing"

	"geode/api"
)

// reading is what U or S answers; a signed number stands in n as the word of its two's complement.
type reading struct {
	n    uint64
	next int
	e    api.Errno
}

func readU(b []byte, at, bits int) reading {
	n, next, e := U(b, at, bits)
	return reading{n, next, e}
}

func readS(b []byte, at, bits int) reading {
	n, next, e := S(b, at, bits)
	return reading{uint64(n), next, e}
}

// model reads place by place, as the chapter's words go, to have something to hold U and S against.
func model(b []byte, at, bits int, signed bool) reading {
	if bits < 1 || bits > 64 || at < 0 || at > len(b) {
		return reading{e: api.ErrArg}
	}
	var place [77]bool
	for i := 0; ; i++ {
		if at+i >= len(b) {
			return reading{e: api.ErrEnd}
		}
		for k := 0; k < 7; k++ {
			p := 7*i + k
			place[p] = b[at+i]&(1<<k) != 0
			if p >= bits && place[p] != (signed && place[bits-1]) {
				return reading{e: api.ErrWide}
			}
		}
		if b[at+i] < 128 {
			return reading{value(place[:7*i+7], bits, signed), at + i + 1, api.OK}
		}
		if 7*(i+1) >= bits {
			return reading{e: api.ErrWide}
		}
	}
}

func value(place []bool, bits int, signed bool) uint64 {
	if len(place) > bits {
		place = place[:bits]
	}
	var n uint64
	for p, set := range place {
		if set && signed && p == len(place)-1 {
			n -= 1 << p
		} else if set {
			n += 1 << p
		}
	}
	return n
}

func compare(t *testing.T, b []byte, at, bits int) {
	if got, want := readU(b, at, bits), model(b, at, bits, false); got != want {
		t.Fatalf("U(%x, %d, %d): %v, want %v", b, at, bits, got, want)
	}
	if got, want := readS(b, at, bits), model(b, at, bits, true); got != want {
		t.Fatalf("S(%x, %d, %d): %v, want %v", b, at, bits, got, want)
	}
}

// numbers are all that have a single change of bits, or are near to one.
func numbers() []uint64 {
	l := []uint64{0xdeadbeef, 0x0123456789abcdef, 0xaaaaaaaaaaaaaaaa, 0x5555555555555555}
	for p := range 64 {
		for d := range uint64(5) {
			n := uint64(1)<<p + d - 2
			l = append(l, n, -n)
		}
	}
	return l
}

type readCase struct {
	b    string
	at   int
	bits int
	want reading
}

func signedWord(n int64) uint64 { return uint64(n) }

func TestP11UnsignedExamples(t *testing.T) {
	for _, x := range []readCase{
		{"\xe5\x8e\x26", 0, 32, reading{624485, 3, api.OK}},
		{"\x80", 0, 32, reading{0, 0, api.ErrEnd}},
		{"\x83\x00", 0, 32, reading{3, 2, api.OK}},
		{"\x83\x10", 0, 8, reading{0, 0, api.ErrWide}},
		{"\xff\xff\xff\xff\x1f", 0, 32, reading{0, 0, api.ErrWide}},
		{"\x80\x80\x80\x80\x80\x00", 0, 32, reading{0, 0, api.ErrWide}},
		{"\x00", 0, 1, reading{0, 1, api.OK}},
		{"\x01", 0, 1, reading{1, 1, api.OK}},
		{"\x02", 0, 1, reading{0, 0, api.ErrWide}},
		{"\x40", 0, 1, reading{0, 0, api.ErrWide}},
		{"\x7f", 0, 7, reading{127, 1, api.OK}},
		{"\xff\x00", 0, 7, reading{0, 0, api.ErrWide}},
		{"\xff\x01", 0, 8, reading{255, 2, api.OK}},
		{"\xff\xff\xff\xff\x0f", 0, 32, reading{1<<32 - 1, 5, api.OK}},
		{"\x80\x80\x80\x80\x10", 0, 33, reading{1 << 32, 5, api.OK}},
		{"\x80\x80\x80\x80\x20", 0, 33, reading{0, 0, api.ErrWide}},
		{"\xff\xff\xff\xff\xff\xff\xff\xff\x7f", 0, 63, reading{1<<63 - 1, 9, api.OK}},
		{"\xff\xff\xff\xff\xff\xff\xff\xff\xff\x00", 0, 63, reading{0, 0, api.ErrWide}},
		{"\xff\xff\xff\xff\xff\xff\xff\xff\xff\x01", 0, 64, reading{math.MaxUint64, 10, api.OK}},
		{"\xff\xff\xff\xff\xff\xff\xff\xff\xff\x02", 0, 64, reading{0, 0, api.ErrWide}},
		{"\x80\x80\x80\x80\x80\x80\x80\x80\x80\x80\x00", 0, 64, reading{0, 0, api.ErrWide}},
		{"\xff\x05\xff", 1, 32, reading{5, 2, api.OK}},
		{"\xff\xe5\x8e\x26\xff", 1, 32, reading{624485, 4, api.OK}},
	} {
		if got := readU([]byte(x.b), x.at, x.bits); got != x.want {
			t.Errorf("U(%x, %d, %d): %v, want %v", x.b, x.at, x.bits, got, x.want)
		}
	}
}

func TestP11SignedExamples(t *testing.T) {
	for _, x := range []readCase{
		{"\x7f", 0, 7, reading{signedWord(-1), 1, api.OK}},
		{"\x80\x7f", 0, 32, reading{signedWord(-128), 2, api.OK}},
		{"\xff\xff\xff\xff\x4f", 0, 32, reading{0, 0, api.ErrWide}},
		{"\x00", 0, 1, reading{0, 1, api.OK}},
		{"\x7f", 0, 1, reading{signedWord(-1), 1, api.OK}},
		{"\x01", 0, 1, reading{0, 0, api.ErrWide}},
		{"\x7e", 0, 1, reading{0, 0, api.ErrWide}},
		{"\x3f", 0, 7, reading{63, 1, api.OK}},
		{"\x40", 0, 7, reading{signedWord(-64), 1, api.OK}},
		{"\xc0\x00", 0, 7, reading{0, 0, api.ErrWide}},
		{"\xc0\x7f", 0, 32, reading{signedWord(-64), 2, api.OK}},
		{"\xff\x7f", 0, 32, reading{signedWord(-1), 2, api.OK}},
		{"\xff\xff\xff\xff\x7f", 0, 32, reading{signedWord(-1), 5, api.OK}},
		{"\xff\xff\xff\xff\x07", 0, 32, reading{math.MaxInt32, 5, api.OK}},
		{"\xff\xff\xff\xff\x0f", 0, 32, reading{0, 0, api.ErrWide}},
		{"\x80\x80\x80\x80\x78", 0, 32, reading{signedWord(math.MinInt32), 5, api.OK}},
		{"\x80\x80\x80\x80\x70", 0, 32, reading{0, 0, api.ErrWide}},
		{"\xff\xff\xff\xff\x0f", 0, 33, reading{1<<32 - 1, 5, api.OK}},
		{"\x80\x80\x80\x80\x70", 0, 33, reading{signedWord(-1 << 32), 5, api.OK}},
		{"\x80\x80\x80\x80\x10", 0, 33, reading{0, 0, api.ErrWide}},
		{"\xff\xff\xff\xff\xff\xff\xff\xff\x3f", 0, 63, reading{1<<62 - 1, 9, api.OK}},
		{"\x80\x80\x80\x80\x80\x80\x80\x80\x40", 0, 63, reading{signedWord(-1 << 62), 9, api.OK}},
		{"\xff\xff\xff\xff\xff\xff\xff\xff\xff\x7f", 0, 63, reading{0, 0, api.ErrWide}},
		{"\xff\xff\xff\xff\xff\xff\xff\xff\xff\x00", 0, 64, reading{math.MaxInt64, 10, api.OK}},
		{"\x80\x80\x80\x80\x80\x80\x80\x80\x80\x7f", 0, 64, reading{signedWord(math.MinInt64), 10, api.OK}},
		{"\x80\x80\x80\x80\x80\x80\x80\x80\x80\x01", 0, 64, reading{0, 0, api.ErrWide}},
		{"\xff\xff\xff\xff\xff\xff\xff\xff\xff\x7e", 0, 64, reading{0, 0, api.ErrWide}},
		{"\xff\xff\xff\xff\xff\xff\xff\xff\xff\xff\x7f", 0, 64, reading{0, 0, api.ErrWide}},
		{"\xff\x80\x7f\xff", 1, 32, reading{signedWord(-128), 3, api.OK}},
	} {
		if got := readS([]byte(x.b), x.at, x.bits); got != x.want {
			t.Errorf("S(%x, %d, %d): %v, want %v", x.b, x.at, x.bits, got, x.want)
		}
	}
}

func TestP11WrongArguments(t *testing.T) {
	arg := reading{e: api.ErrArg}
	for _, b := range [][]byte{nil, {}, {1}, {0x80}, {1, 2, 3}, bytes.Repeat([]byte{0xff}, 20)} {
		for _, bits := range []int{math.MinInt, -64, -1, 0, 65, 66, 128, math.MaxInt} {
			for _, at := range []int{math.MinInt, -1, 0, len(b), len(b) + 1, math.MaxInt} {
				if readU(b, at, bits) != arg || readS(b, at, bits) != arg {
					t.Errorf("%x at %d, %d bits: %v %v", b, at, bits, readU(b, at, bits), readS(b, at, bits))
				}
			}
		}
		for _, at := range []int{math.MinInt, -1, len(b) + 1, len(b) + 2, math.MaxInt} {
			for bits := 1; bits <= 64; bits++ {
				if readU(b, at, bits) != arg || readS(b, at, bits) != arg {
					t.Errorf("%x at %d, %d bits: %v %v", b, at, bits, readU(b, at, bits), readS(b, at, bits))
				}
			}
		}
	}
}

func TestP11BytesThatEnd(t *testing.T) {
	end := reading{e: api.ErrEnd}
	for bits := 1; bits <= 64; bits++ {
		for _, fill := range []byte{0x80, 0xff} {
			most := (bits+6)/7 - 1
			b := bytes.Repeat([]byte{fill}, most)
			for at := 0; at <= most; at++ {
				if readU(b, at, bits) != end || readS(b, at, bits) != end {
					t.Errorf("%x at %d, %d bits: %v %v", b, at, bits, readU(b, at, bits), readS(b, at, bits))
				}
			}
			compare(t, append(b, fill), 0, bits)
		}
	}
	if readU(nil, 0, 32) != end || readS(nil, 0, 32) != end {
		t.Error("no bytes")
	}
}

// A number whose bits are used up is too wide at once: that nothing is behind it does not matter.
func TestP11WideBeforeEnd(t *testing.T) {
	wide := reading{e: api.ErrWide}
	for bits := 1; bits <= 64; bits++ {
		b := bytes.Repeat([]byte{0x80}, (bits+6)/7)
		if readU(b, 0, bits) != wide || readS(b, 0, bits) != wide {
			t.Errorf("%d bits: %v %v", bits, readU(b, 0, bits), readS(b, 0, bits))
		}
	}
}

func TestP11ShortRows(t *testing.T) {
	for bits := 1; bits <= 64; bits++ {
		for x := range 1 << 16 {
			b := []byte{byte(x), byte(x >> 8)}
			compare(t, b, 0, bits)
			if x < 256 {
				compare(t, b[:1], 0, bits)
				compare(t, b, 1, bits)
				compare(t, b, 2, bits)
			}
		}
	}
}

func TestP11LongRows(t *testing.T) {
	for bits := 1; bits <= 64; bits++ {
		for _, fill := range []byte{0x80, 0xff, 0xaa, 0xd5} {
			for many := range 12 {
				b := append(bytes.Repeat([]byte{fill}, many), 0, 0x55, 0x80)
				for last := range 256 {
					b[many] = byte(last)
					compare(t, b, 0, bits)
				}
			}
		}
	}
}

func TestP11LeavesItsBytes(t *testing.T) {
	b := []byte{0xe5, 0x8e, 0x26, 0xff}
	U(b, 0, 32)
	S(b, 0, 32)
	U(b, 3, 1)
	S(b, 3, 1)
	if string(b) != "\xe5\x8e\x26\xff" {
		t.Errorf("%x", b)
	}
}

func TestP12Examples(t *testing.T) {
	for n, want := range map[uint64]string{
		0: "\x00", 1: "\x01", 127: "\x7f", 128: "\x80\x01", 624485: "\xe5\x8e\x26",
		1<<14 - 1: "\xff\x7f", 1 << 14: "\x80\x80\x01", math.MaxUint32: "\xff\xff\xff\xff\x0f",
		1<<63 - 1:      "\xff\xff\xff\xff\xff\xff\xff\xff\x7f",
		1 << 63:        "\x80\x80\x80\x80\x80\x80\x80\x80\x80\x01",
		math.MaxUint64: "\xff\xff\xff\xff\xff\xff\xff\xff\xff\x01",
	} {
		if got := PutU(n); string(got) != want || Len(n) != len(want) {
			t.Errorf("PutU(%d): %x, %d", n, got, Len(n))
		}
	}
	for n, want := range map[int64]string{
		0: "\x00", 1: "\x01", -1: "\x7f", 63: "\x3f", 64: "\xc0\x00", -64: "\x40", -65: "\xbf\x7f", -128: "\x80\x7f",
		math.MaxInt32: "\xff\xff\xff\xff\x07", math.MinInt32: "\x80\x80\x80\x80\x78",
		1<<62 - 1:     "\xff\xff\xff\xff\xff\xff\xff\xff\x3f",
		-1 << 62:      "\x80\x80\x80\x80\x80\x80\x80\x80\x40",
		math.MaxInt64: "\xff\xff\xff\xff\xff\xff\xff\xff\xff\x00",
		math.MinInt64: "\x80\x80\x80\x80\x80\x80\x80\x80\x80\x7f",
	} {
		if got := PutS(n); string(got) != want {
			t.Errorf("PutS(%d): %x", n, got)
		}
	}
}

// So many bytes have just the numbers that have so many places: one fewer has not enough of them.
func TestP12Fewest(t *testing.T) {
	for _, n := range numbers() {
		for _, m := range []uint64{n, n ^ 1<<63} {
			many := 1
			for many < 10 && m >= 1<<(7*many) {
				many++
			}
			if len(PutU(m)) != many || Len(m) != many {
				t.Errorf("PutU(%d): %x, %d", m, PutU(m), Len(m))
			}
			many = 1
			for s := int64(m); many < 10 && (s < -1<<(7*many-1) || s >= 1<<(7*many-1)); {
				many++
			}
			if len(PutS(int64(m))) != many {
				t.Errorf("PutS(%d): %x", int64(m), PutS(int64(m)))
			}
		}
	}
}

func TestP12AnyInteger(t *testing.T) {
	for n := math.MinInt16; n <= math.MaxUint16; n++ {
		if !bytes.Equal(put(int8(n)), PutS(int64(int8(n)))) || !bytes.Equal(put(int16(n)), PutS(int64(int16(n)))) {
			t.Errorf("signed %d", n)
		}
		if !bytes.Equal(put(uint8(n)), PutU(uint64(uint8(n)))) || !bytes.Equal(put(uint16(n)), PutU(uint64(uint16(n)))) {
			t.Errorf("unsigned %d", n)
		}
	}
}

func TestP12NewMemory(t *testing.T) {
	for _, put := range []func() []byte{
		func() []byte { return PutU(1 << 40) },
		func() []byte { return PutS(-1 << 40) },
	} {
		one, other := put(), put()
		want := string(other)
		clear(one[:cap(one)])
		if string(other) != want || string(put()) != want {
			t.Errorf("%x is shared", want)
		}
	}
}

func TestP13RoundTrip(t *testing.T) {
	for _, n := range numbers() {
		for _, behind := range []string{"", "\x00", "\x7f", "\x80", "\xff\xff"} {
			u, s := PutU(n), PutS(int64(n))
			bu, bs := []byte("\xff"+string(u)+behind), []byte("\x80"+string(s)+behind)
			if got := readU(bu, 1, 64); got != (reading{n, 1 + len(u), api.OK}) {
				t.Errorf("%d as %x: %v", n, bu, got)
			}
			if got := readS(bs, 1, 64); got != (reading{n, 1 + len(s), api.OK}) {
				t.Errorf("%d as %x: %v", int64(n), bs, got)
			}
		}
	}
}

func TestP13NoFewerBytes(t *testing.T) {
	for x := range 1 << 21 {
		b := []byte{byte(x), byte(x >> 8), byte(x >> 16)}
		if n, next, e := U(b, 0, 64); e == api.OK && len(PutU(n)) > next {
			t.Fatalf("%x is %d, put as %x", b[:next], n, PutU(n))
		}
		if n, next, e := S(b, 0, 64); e == api.OK && len(PutS(n)) > next {
			t.Fatalf("%x is %d, put as %x", b[:next], n, PutS(n))
		}
	}
}

func TestP13MoreBits(t *testing.T) {
	for _, n := range numbers() {
		for bits := 1; bits <= 64; bits++ {
			u, s := PutU(n), PutS(int64(n))
			moreBits(t, readU, u, bits)
			moreBits(t, readS, s, bits)
			// A byte more that adds nothing.
			u[len(u)-1] |= 0x80
			moreBits(t, readU, append(u, 0), bits)
			sign := s[len(s)-1] >> 6 & 1 * 0x7f
			s[len(s)-1] |= 0x80
			moreBits(t, readS, append(s, sign), bits)
		}
	}
}

func moreBits(t *testing.T, read func(b []byte, at, bits int) reading, b []byte, bits int) {
	want := read(b, 0, bits)
	if want.e != api.OK {
		return
	}
	for m := bits + 1; m <= 64; m++ {
		if got := read(b, 0, m); got != want {
			t.Errorf("%x: %v by %d bits, %v by %d", b, want, bits, got, m)
		}
	}
}

// Every number of so many bits is read as itself by them, and no other is.
func TestP13FewerBits(t *testing.T) {
	for _, n := range numbers() {
		for bits := 1; bits <= 64; bits++ {
			want := api.ErrWide
			if n>>(bits-1)>>1 == 0 {
				want = api.OK
			}
			if got := readU(PutU(n), 0, bits); got.e != want || want == api.OK && got.n != n {
				t.Errorf("%d by %d bits: %v", n, bits, got)
			}
			s := int64(n)
			want = api.ErrWide
			if top := s >> (bits - 1); top == 0 || top == -1 {
				want = api.OK
			}
			if got := readS(PutS(s), 0, bits); got.e != want || want == api.OK && got.n != n {
				t.Errorf("%d by %d bits: %v", s, bits, got)
			}
		}
	}
}

// Every call ends, and none panics, whatever it is given.
func TestP1(t *testing.T) {
	edges := []int{math.MinInt, math.MinInt + 1, -1 << 32, -1, 0, 1, 2, 6, 7, 8, 31, 32, 33, 63, 64, 65, 1 << 32, math.MaxInt - 1, math.MaxInt}
	for _, b := range [][]byte{nil, {}, {0}, {0x7f}, {0x80}, {0xff}, bytes.Repeat([]byte{0x80}, 100), bytes.Repeat([]byte{0xff}, 100)} {
		for _, at := range edges {
			for _, bits := range edges {
				compare(t, b, at, bits)
			}
		}
	}
}
