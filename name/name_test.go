package name

import (
	"bytes"
	"math"
	"strings"
	"testing"

	"geode/api"
	"geode/leb"
)

// onePoint is a code point's bytes, as the chapter's words go; none, if there is no such code point.
func onePoint(n int) string {
	switch {
	case n < 0 || n > 1114111 || n >= 55296 && n <= 57343:
		return ""
	case n < 128:
		return string([]byte{byte(n)})
	case n < 2048:
		return string([]byte{byte(192 + n/64), byte(128 + n%64)})
	case n < 65536:
		return string([]byte{byte(224 + n/4096), byte(128 + n/64%64), byte(128 + n%64)})
	}
	return string([]byte{byte(240 + n/262144), byte(128 + n/4096%64), byte(128 + n/64%64), byte(128 + n%64)})
}

// model counts by taking the code point that the first byte's length leads to, and holding its bytes against those that stand there.
func model(s string) int {
	many := 0
	for s != "" {
		n, long := int(s[0]), 1
		switch {
		case n >= 240:
			n, long = n-240, 4
		case n >= 224:
			n, long = n-224, 3
		case n >= 192:
			n, long = n-192, 2
		}
		if long > len(s) {
			return -1
		}
		for k := 1; k < long; k++ {
			n = n*64 + int(s[k]) - 128
		}
		if onePoint(n) != s[:long] {
			return -1
		}
		s = s[long:]
		many++
	}
	return many
}

func hold(t *testing.T, s string) {
	t.Helper()
	want := model(s)
	if got := Count(s); got != want {
		t.Fatalf("Count(%x): %d, want %d", s, got, want)
	}
	if Well(s) != (want >= 0) {
		t.Fatalf("Well(%x): %v", s, Well(s))
	}
}

func TestP21Examples(t *testing.T) {
	for s, want := range map[string]int{
		"": 0, "a": 1, "\xc3\xa9": 1, "\xe2\x82\xac": 1, "\xf0\x9f\x98\x80": 1,
		"\x00": 1, "\x7f": 1, "\xc2\x80": 1, "\xdf\xbf": 1, "\xe0\xa0\x80": 1, "\xed\x9f\xbf": 1,
		"\xee\x80\x80": 1, "\xef\xbf\xbf": 1, "\xf0\x90\x80\x80": 1, "\xf4\x8f\xbf\xbf": 1,
		"a\xc3\xa9\xe2\x82\xac\xf0\x9f\x98\x80": 4, "\xef\xbf\xbd": 1, "\xef\xbf\xbd\xef\xbf\xbd": 2,
		"\x00\x00": 2, "\xef\xbb\xbf": 1,
		"\x80": -1, "\xc0\x80": -1, "\xc3": -1, "\xed\xa0\x80": -1, "\xf4\x90\x80\x80": -1, "\xff": -1,
		"\xbf": -1, "\xc1\xbf": -1, "\xe0\x9f\xbf": -1, "\xe0\x80\x80": -1, "\xed\xbf\xbf": -1,
		"\xed\xa0\x80\xed\xb0\x80": -1, "\xf0\x8f\xbf\xbf": -1, "\xf5\x80\x80\x80": -1, "\xf8\x88\x80\x80\x80": -1,
		"\xe2\x82": -1, "\xe2": -1, "\xf0\x9f\x98": -1, "\xf0\x9f": -1, "\xf0": -1, "\xfe": -1,
		"a\x80": -1, "\x80a": -1, "\xef\xbf\xbd\x80": -1, "\x80\xef\xbf\xbd": -1, "a\xef\xbf": -1,
		"\xc3\xa9\xa9": -1, "\xc3a": -1, "\xc3\xc3": -1,
	} {
		if Count(s) != want || Well(s) != (want >= 0) {
			t.Errorf("%x: %d, %v", s, Count(s), Well(s))
		}
	}
}

func TestP21EachPoint(t *testing.T) {
	for n := -1; n <= 0x110001; n++ {
		s := onePoint(n)
		want := 1
		if s == "" {
			want = 0
		}
		if Count(s) != want || !Well(s) {
			t.Fatalf("point %d, %x: %d", n, s, Count(s))
		}
		for cut := 1; cut < len(s); cut++ {
			if Count(s[:cut]) != -1 || Well(s[cut:]) {
				t.Fatalf("point %d, %x cut at %d", n, s, cut)
			}
		}
	}
}

// Numbers that are no code points, or that fewer bytes would hold, in as many bytes as there may be.
func TestP21NoPoint(t *testing.T) {
	for n := 0; n < 1<<21; n++ {
		b := []byte{byte(0xf0 | n>>18), byte(0x80 | n>>12&63), byte(0x80 | n>>6&63), byte(0x80 | n&63)}
		if Well(string(b)) != (n >= 65536 && n <= 1114111) {
			t.Fatalf("%x", b)
		}
		b[1] = 0xe0 | b[1]&15
		if n < 65536 && Well(string(b[1:])) != (n >= 2048 && (n < 55296 || n > 57343)) {
			t.Fatalf("%x", b[1:])
		}
		b[2] = 0xc0 | b[2]&31
		if n < 2048 && Well(string(b[2:])) != (n >= 128) {
			t.Fatalf("%x", b[2:])
		}
	}
}

func TestP21ShortRows(t *testing.T) {
	for x := range 1 << 16 {
		s := string([]byte{byte(x), byte(x >> 8)})
		hold(t, s)
		if x < 256 {
			hold(t, s[:1])
		}
	}
}

// The bytes at which something changes, in rows of up to five.
func TestP21LongRows(t *testing.T) {
	edge := "a\x00\x7f\x80\x8f\x90\x9f\xa0\xbd\xbf\xc0\xc1\xc2\xdf\xe0\xed\xef\xf0\xf4\xf5\xff"
	rows := []string{""}
	for range 5 {
		var next []string
		for _, s := range rows {
			// What no byte more can mend is not gone on with, but by one, so that few are left.
			for k := range len(edge) {
				row := s + edge[k:k+1]
				hold(t, row)
				if !beyondMending(row) {
					next = append(next, row)
				}
			}
		}
		rows = next
	}
}

func beyondMending(s string) bool {
	for tail := 0; tail < 4 && tail <= len(s); tail++ {
		if model(s[:len(s)-tail]) >= 0 {
			return false
		}
	}
	return true
}

func TestP21LongName(t *testing.T) {
	for _, s := range []string{"a", "\xc3\xa9", "\xe2\x82\xac", "\xf0\x9f\x98\x80", "\xef\xbf\xbd"} {
		long := strings.Repeat(s, 200000)
		if Count(long) != 200000 || Count(long+"\x80") != -1 || Count("\x80"+long) != -1 {
			t.Errorf("many of %x", s)
		}
	}
}

type reading struct {
	s    string
	next int
	e    api.Errno
}

func read(b string, at int) reading {
	s, next, e := Read([]byte(b), at)
	return reading{s, next, e}
}

func TestP22Examples(t *testing.T) {
	for _, x := range []struct {
		b    string
		at   int
		want reading
	}{
		{"\x02\xc3\xa9", 0, reading{"\xc3\xa9", 3, api.OK}},
		{"\x03\xc3\xa9", 0, reading{e: api.ErrEnd}},
		{"\x01\xc3", 0, reading{e: api.ErrName}},
		{"\x00", 0, reading{"", 1, api.OK}},
		{"\x00\xff", 0, reading{"", 1, api.OK}},
		{"\x80\x00", 0, reading{"", 2, api.OK}},
		{"\x82\x80\x80\x80\x00ab", 0, reading{"ab", 7, api.OK}},
		{"\x02abc", 0, reading{"ab", 3, api.OK}},
		{"\x01a\xff", 0, reading{"a", 2, api.OK}},
		{"\xff\x03a\x00bz", 1, reading{"a\x00b", 5, api.OK}},
		{"\x03\xef\xbf\xbd", 0, reading{"\ufffd", 4, api.OK}},
		{"", 0, reading{e: api.ErrEnd}},
		{"a", 1, reading{e: api.ErrEnd}},
		{"\x01", 0, reading{e: api.ErrEnd}},
		{"\x80", 0, reading{e: api.ErrEnd}},
		{"\xff\xff\xff\xff\x0f", 0, reading{e: api.ErrEnd}},
		{"\xff\xff\xff\xff\x0fabc", 0, reading{e: api.ErrEnd}},
		{"\xff\xff\xff\xff\x1f", 0, reading{e: api.ErrWide}},
		{"\x80\x80\x80\x80\x10", 0, reading{e: api.ErrWide}},
		{"\x82\x80\x80\x80\x80\x00ab", 0, reading{e: api.ErrWide}},
		{"\x02\xff", 0, reading{e: api.ErrEnd}},
		{"\x02\xc3\xa9\xa9", 0, reading{"\xc3\xa9", 3, api.OK}},
		{"\x01\xc3\xa9", 0, reading{e: api.ErrName}},
		{"\x02\xc3\xa9\xa9", 1, reading{e: api.ErrEnd}},
		{"\x03\xed\xa0\x80", 0, reading{e: api.ErrName}},
	} {
		if got := read(x.b, x.at); got != x.want {
			t.Errorf("Read(%x, %d): %v, want %v", x.b, x.at, got, x.want)
		}
	}
}

func TestP22WrongPlace(t *testing.T) {
	for _, b := range []string{"", "\x00", "\x01a", "\x80", "\xff\xff\xff\xff\x1f"} {
		for _, at := range []int{math.MinInt, -1, len(b) + 1, len(b) + 2, 1 << 32, math.MaxInt} {
			if got := read(b, at); got != (reading{e: api.ErrArg}) {
				t.Errorf("Read(%x, %d): %v", b, at, got)
			}
		}
	}
}

// What is wrong first is told, at each place of bytes of every kind.
func TestP22Order(t *testing.T) {
	for x := range 1 << 16 {
		for _, tail := range []string{"", "a", "\xbf", "ab\xc3", "\xa9\x80\xe2\x82\xac"} {
			b := []byte(string([]byte{byte(x), byte(x >> 8)}) + tail)
			for at := range 3 {
				s, next, e := Read(b, at)
				if got, want := (reading{s, next, e}), modelRead(b, at); got != want {
					t.Fatalf("Read(%x, %d): %v, want %v", b, at, got, want)
				}
			}
		}
	}
}

func modelRead(b []byte, at int) reading {
	n, next, e := leb.U(b, at, 32)
	switch {
	case e != api.OK:
		return reading{e: e}
	case n > uint64(len(b)-next):
		return reading{e: api.ErrEnd}
	case model(string(b[next:next+int(n)])) < 0:
		return reading{e: api.ErrName}
	}
	return reading{string(b[next : next+int(n)]), next + int(n), api.OK}
}

// A name that is longer than one that may be put is read all the same.
func TestP22Long(t *testing.T) {
	long := strings.Repeat("\xe2\x82\xac", 40000)
	b := string(leb.PutU(120000)) + long
	if got := read(b, 0); got != (reading{long, len(b), api.OK}) {
		t.Error(got.next, got.e)
	}
	if got := read(b[:len(b)-1], 0); got != (reading{e: api.ErrEnd}) {
		t.Error(got.next, got.e)
	}
}

func TestP22NewMemory(t *testing.T) {
	b := []byte("\x02\xc3\xa9")
	s, _, _ := Read(b, 0)
	if string(b) != "\x02\xc3\xa9" {
		t.Errorf("changed: %x", b)
	}
	clear(b)
	if s != "\xc3\xa9" {
		t.Errorf("shared: %x", s)
	}
}

func TestP23Examples(t *testing.T) {
	for s, want := range map[string]string{
		"": "\x00", "a": "\x01a", "\xc3\xa9": "\x02\xc3\xa9", "\x00": "\x01\x00", "\xef\xbf\xbd": "\x03\xef\xbf\xbd",
		strings.Repeat("a", 127): "\x7f" + strings.Repeat("a", 127),
		strings.Repeat("a", 128): "\x80\x01" + strings.Repeat("a", 128),
	} {
		if b, e := Put(s); string(b) != want || e != api.OK {
			t.Errorf("Put(%x): %x, %d", s, b, e)
		}
	}
	for _, s := range []string{"\x80", "\xff", "a\xc3", "\xed\xa0\x80", "\xc0\x80", "\xf4\x90\x80\x80"} {
		if b, e := Put(s); b != nil || e != api.ErrName {
			t.Errorf("Put(%x): %x, %d", s, b, e)
		}
	}
}

func TestP23Long(t *testing.T) {
	most := strings.Repeat("\xc3\xa9", 50000)
	if b, e := Put(most); string(b) != "\xa0\x8d\x06"+most || e != api.OK {
		t.Errorf("%d bytes, %d", len(b), e)
	}
	// As many bytes count, not as many code points.
	for _, s := range []string{most + "a", strings.Repeat("a", 100001), strings.Repeat("\xf0\x9f\x98\x80", 25001)} {
		if b, e := Put(s); b != nil || e != api.ErrLong {
			t.Errorf("%d bytes: %d, %d", len(s), len(b), e)
		}
	}
	for _, s := range []string{most + "\xc3", "\xff" + most, strings.Repeat("\x80", 100001)} {
		if b, e := Put(s); b != nil || e != api.ErrName {
			t.Errorf("%d bytes: %d, %d", len(s), len(b), e)
		}
	}
}

func TestP23NewMemory(t *testing.T) {
	one, _ := Put("name")
	other, _ := Put("name")
	clear(one[:cap(one)])
	if string(other) != "\x04name" {
		t.Errorf("shared: %x", other)
	}
}

func names() []string {
	return []string{
		"", "a", "\x00", "\x7f", "\xc2\x80", "\xdf\xbf", "\xe0\xa0\x80", "\xed\x9f\xbf", "\xef\xbf\xbd", "\xef\xbf\xbf",
		"\xf0\x90\x80\x80", "\xf4\x8f\xbf\xbf", "memory", "gr\xc3\xb6\xc3\x9fe", "\xe2\x82\xaca\xf0\x9f\x98\x80\xc3\xa9",
		strings.Repeat("\xe2\x82\xaca", 100), strings.Repeat("x", 127), strings.Repeat("x", 128), strings.Repeat("x", 16384),
	}
}

func TestP24RoundTrip(t *testing.T) {
	for _, s := range append(names(), strings.Repeat("a", 100000)) {
		for _, behind := range []string{"", "\x00", "\x80", "\xff\xff"} {
			b, e := Put(s)
			if e != api.OK {
				t.Fatalf("Put(%x): %d", s, e)
			}
			whole := "\xff" + string(b) + behind
			if got := read(whole, 1); got != (reading{s, 1 + len(b), api.OK}) {
				t.Errorf("%x: %v", whole, got)
			}
		}
	}
}

func TestP24Joined(t *testing.T) {
	for _, one := range names() {
		for _, other := range names() {
			if Count(one+other) != Count(one)+Count(other) || !Well(one+other) {
				t.Errorf("%x and %x", one, other)
			}
		}
	}
}

func TestP24Cut(t *testing.T) {
	for _, one := range names() {
		for _, other := range names() {
			s := one + other
			if len(s) > 1000 {
				continue
			}
			for at := range len(s) + 1 {
				if Well(s[:at]) != Well(s[at:]) {
					t.Errorf("%x cut at %d", s, at)
				}
			}
		}
	}
}

// Every call ends, and none panics, whatever it is given.
func TestP1(t *testing.T) {
	for _, b := range [][]byte{nil, {}, {0}, {0x80}, {0xff}, bytes.Repeat([]byte{0x80}, 100), bytes.Repeat([]byte{0xff}, 100), bytes.Repeat([]byte{0x0f}, 100)} {
		hold(t, string(b))
		for _, at := range []int{math.MinInt, -1, 0, 1, 2, 50, 99, 100, 101, math.MaxInt} {
			if s, next, e := Read(b, at); e != api.OK && (s != "" || next != 0) {
				t.Errorf("Read(%x, %d): %x, %d, %d", b, at, s, next, e)
			}
		}
		if got, e := Put(string(b)); e != api.OK && got != nil {
			t.Errorf("Put(%x): %x, %d", b, got, e)
		}
	}
}
