package tbin

import (
	"bytes"
	"math"
	"slices"
	"strings"
	"testing"

	"geode/api"
	"geode/leb"
	"geode/name"
)

// met is what a reader tells of itself.
type met struct {
	e              api.Errno
	errAt, at, len int
}

func state(r *Reader) met {
	e, errAt := r.Err()
	return met{e, errAt, r.At(), r.Left()}
}

func expect(t *testing.T, r *Reader, want met, what ...any) {
	t.Helper()
	if got := state(r); got != want {
		t.Fatalf("%v: %+v, want %+v", what, got, want)
	}
}

// noughts asks everything of a reader that can't read, and holds that it tells nothing and stays as it is.
func noughts(t *testing.T, r *Reader, what ...any) {
	t.Helper()
	was := state(r)
	for _, bits := range []int{-1, 0, 1, 32, 33, 64, 65} {
		if r.U(bits) != 0 || r.S(bits) != 0 {
			t.Errorf("%v: a number of %d bits", what, bits)
		}
	}
	for _, n := range []int{math.MinInt, -1, 0, 1, 2, math.MaxInt} {
		if len(r.Take(n)) != 0 {
			t.Errorf("%v: %d bytes", what, n)
		}
	}
	if r.Byte() != 0 || r.Name() != "" || r.Count() != 0 || r.Heap() != (api.Heap{}) || r.Val() != (api.Val{}) || len(r.Vals()) != 0 || len(r.Rec()) != 0 {
		t.Errorf("%v: more than noughts", what)
	}
	for _, e := range []api.Errno{api.OK, api.ErrForm, api.ErrNil, -1} {
		r.Fail(e, 77)
	}
	expect(t, r, was, what...)
}

func TestP61Open(t *testing.T) {
	for _, b := range [][]byte{nil, {}, {1}, {0x80, 0, 7}, bytes.Repeat([]byte{9}, 1000)} {
		expect(t, Open(b), met{api.OK, 0, 0, len(b)}, b)
	}
	b := []byte{1, 2, 3}
	r, other := Open(b), Open(b)
	b[0], b[1] = 9, 9
	if r.Byte() != 1 || r.Byte() != 2 {
		t.Error("the bytes are not copied")
	}
	expect(t, r, met{api.OK, 0, 2, 1})
	expect(t, other, met{api.OK, 0, 0, 3}, "another reader of the same bytes")
	if b[2] != 3 {
		t.Error("the bytes are changed")
	}
}

func TestP61Places(t *testing.T) {
	r := Open([]byte("\x05\x80\x01\x7f\x02ab\x01\x7e\x63\x6e\x02\x7f\x7e\x5f\x00\x01\x02"))
	for i, step := range []struct {
		read func()
		at   int
	}{
		{func() { r.Byte() }, 1}, {func() { r.U(32) }, 3}, {func() { r.S(32) }, 4}, {func() { r.Name() }, 7}, {func() { r.Count() }, 8},
		{func() { r.Take(1) }, 9}, {func() { r.Val() }, 11}, {func() { r.Vals() }, 14}, {func() { r.Rec() }, 16}, {func() { r.Heap() }, 17},
		{func() { r.Take(0) }, 17}, {func() { r.Byte() }, 18},
	} {
		step.read()
		expect(t, r, met{api.OK, 0, step.at, 18 - step.at}, i)
	}
	r.Byte()
	expect(t, r, met{api.ErrEnd, 18, 18, 0})
	noughts(t, r)
}

func TestP61Fail(t *testing.T) {
	for _, e := range []api.Errno{api.ErrNil, api.ErrArg, api.ErrEnd, api.ErrForm, api.ErrSize, -1, 1000} {
		for _, at := range []int{math.MinInt, -1, 0, 1, 2, 3, 4, math.MaxInt} {
			r := Open([]byte{1, 2, 3})
			r.Byte()
			r.Fail(api.OK, at)
			expect(t, r, met{api.OK, 0, 1, 2}, "of OK")
			r.Fail(e, at)
			expect(t, r, met{e, at, 1, 2}, e, at)
			r.Fail(e+1, at-1)
			r.Fail(api.OK, 0)
			noughts(t, r, e, at)
			expect(t, r, met{e, at, 1, 2}, e, at)
		}
	}
	r := Open(nil)
	r.Byte()
	r.Fail(api.ErrForm, 5)
	expect(t, r, met{api.ErrEnd, 0, 0, 0}, "behind an error of the reader's own")
}

func TestP61NoReader(t *testing.T) {
	for i, r := range []*Reader{nil, {}, new(Reader)} {
		expect(t, r, met{api.ErrNil, 0, 0, 0}, i)
		noughts(t, r, i)
	}
}

// starts are bytes, with places in front of items, good and bad ones.
func starts() []string {
	return []string{
		"", "\x00", "\x01", "\x7f", "\x40", "\x80", "\x80\x80", "\x80\x00", "\xff\x7f", "\x83\x10", "\xe5\x8e\x26", "\xff\xff\xff\xff\x0f", "\xff\xff\xff\xff\x1f",
		"\xff\xff\xff\xff\x2f", "\xff\xff\xff\xff\x4f", "\xff\xff\xff\xff\x70", "\xff\xff\xff\xff\x7f", "\x80\x80\x80\x80\x80\x00", "\x80\x80\x80\x80\x80\x80\x80\x80\x80\x01", "\x80\x80\x80\x80\x80\x80\x80\x80\x80\x02",
		"\xff\xff\xff\xff\xff\xff\xff\xff\xff\xff\x00", "\x02a", "\x02ab", "\x02abc", "\x02\xc3\xa9", "\x01\xc3", "\x03\xed\xa0\x80", "\x04\xf0\x9f\x98\x80",
		"\x81\x00a", "\x81\x00", "\x03\x80\x80\x80\x80", "\xff\xff\xff\xff\x0fabc",
	}
}

// each tells a reader of each of the bytes, at several places, with others behind or none.
func each(tell func(open func() *Reader, b []byte, at int)) {
	for _, s := range starts() {
		for _, before := range []string{"", "\x00", "\x80\xff\x05"} {
			for _, behind := range []string{"", "\x00", "\x80", "\x7fxyz"} {
				b := []byte(before + s + behind)
				tell(func() *Reader {
					r := Open(b)
					r.Take(len(before))
					return r
				}, b, len(before))
			}
		}
	}
}

// after is the state behind an item that layer 1 or 2 reads.
func after(b []byte, at, next int, e api.Errno) met {
	if e != api.OK {
		return met{e, at, at, len(b) - at}
	}
	return met{api.OK, 0, next, len(b) - next}
}

func TestP62Numbers(t *testing.T) {
	each(func(open func() *Reader, b []byte, at int) {
		for _, bits := range []int{math.MinInt, -1, 0, 1, 2, 7, 8, 31, 32, 33, 34, 63, 64, 65, math.MaxInt} {
			r := open()
			got := r.U(bits)
			n, next, e := leb.U(b, at, bits)
			if got != n {
				t.Errorf("%x: U(%d): %d, want %d", b, bits, got, n)
			}
			expect(t, r, after(b, at, next, e), b, bits)
			r = open()
			signed := r.S(bits)
			m, next, e := leb.S(b, at, bits)
			if signed != m {
				t.Errorf("%x: S(%d): %d, want %d", b, bits, signed, m)
			}
			expect(t, r, after(b, at, next, e), b, bits)
			if e != api.OK {
				noughts(t, r, b, bits)
			}
		}
	})
	r := Open(nil)
	r.U(0)
	expect(t, r, met{api.ErrArg, 0, 0, 0}, "of no bits, where there are no bytes")
}

func TestP62Names(t *testing.T) {
	each(func(open func() *Reader, b []byte, at int) {
		r := open()
		got := r.Name()
		s, next, e := name.Read(b, at)
		if got != s {
			t.Errorf("%x: %q, want %q", b, got, s)
		}
		expect(t, r, after(b, at, next, e), b)
		if e != api.OK {
			noughts(t, r, b)
		}
	})
}

func TestP62Bytes(t *testing.T) {
	each(func(open func() *Reader, b []byte, at int) {
		r := open()
		for i := at; i < len(b); i++ {
			if x := r.Byte(); x != b[i] {
				t.Errorf("%x: %x at %d", b, x, i)
			}
			expect(t, r, met{api.OK, 0, i + 1, len(b) - i - 1}, b, i)
		}
		r.Byte()
		expect(t, r, met{api.ErrEnd, len(b), len(b), 0}, b)
		noughts(t, r, b)
	})
}

func TestP62Counts(t *testing.T) {
	each(func(open func() *Reader, b []byte, at int) {
		r := open()
		got := r.Count()
		n, next, e := leb.U(b, at, 32)
		if e == api.OK && next+int(n) > len(b) {
			n, e = 0, api.ErrEnd
		}
		if got != int(n) {
			t.Errorf("%x: %d, want %d", b, got, n)
		}
		expect(t, r, after(b, at, next, e), b)
		if e != api.OK {
			noughts(t, r, b)
		}
	})
	for _, n := range []int{0, 1, 127, 128, 300, 70000} {
		num := leb.PutU(uint64(n))
		for _, left := range []int{0, n / 2, n - 1, n, n + 1} {
			b := append(slices.Clone(num), make([]byte, max(0, left))...)
			want, e := n, api.OK
			if left < n && n > 0 {
				want, e = 0, api.ErrEnd
			}
			r := Open(b)
			if got := r.Count(); got != want {
				t.Errorf("%d of %d: %d", n, left, got)
			}
			expect(t, r, after(b, 0, len(num), e), n, left)
		}
	}
}

func TestP62Take(t *testing.T) {
	each(func(open func() *Reader, b []byte, at int) {
		for n := -2; n <= len(b)+2; n++ {
			r := open()
			got := r.Take(n)
			if n < 0 || at+n > len(b) {
				if len(got) != 0 {
					t.Errorf("%x: %d bytes: %x", b, n, got)
				}
				expect(t, r, met{api.ErrEnd, at, at, len(b) - at}, b, n)
				noughts(t, r, b, n)
				continue
			}
			if !bytes.Equal(got, b[at:at+n]) {
				t.Errorf("%x: %d bytes: %x", b, n, got)
			}
			expect(t, r, met{api.OK, 0, at + n, len(b) - at - n}, b, n)
		}
		for _, n := range []int{math.MinInt, math.MinInt + 1, math.MaxInt - 1, math.MaxInt} {
			r := open()
			if len(r.Take(n)) != 0 {
				t.Errorf("%x: %d bytes", b, n)
			}
			expect(t, r, met{api.ErrEnd, at, at, len(b) - at}, b, n)
		}
	})
}

// What is taken is new: neither what follows nor what is taken again hangs on it.
func TestP62TakenApart(t *testing.T) {
	r := Open([]byte("abcdef"))
	got := r.Take(2)
	got[0], got[1] = 'x', 'x'
	_ = append(got, "yyyy"...)
	if s := string(r.Take(4)); s != "cdef" {
		t.Error(s)
	}
	if !strings.HasPrefix(string(got), "xx") {
		t.Error(string(got))
	}
}
