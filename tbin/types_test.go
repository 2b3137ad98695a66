package tbin

import (
	"slices"
	"strconv"
	"strings"
	"testing"

	"geode/api"
	"geode/kind"
	"geode/leb"
)

// heapsRow is the chapter's, as it stands there.
const heapsRow = "74 noexn, 73 nofunc, 72 noextern, 71 none, 70 func, 6f extern, 6e any, 6d eq, 6c i31, 6b struct, 6a array, 69 exn"

// heapNames are the heap types that are one byte, by it.
func heapNames() map[byte]string {
	out := map[byte]string{}
	for _, s := range strings.Split(heapsRow, ", ") {
		b, n, _ := strings.Cut(s, " ")
		x, _ := strconv.ParseUint(b, 16, 8)
		out[byte(x)] = n
	}
	return out
}

var names = heapNames()

// look reads bytes as the chapter tells it, but as writings; what it can't read it leaves by a panic with what it met.
type look struct {
	b  []byte
	at int
}

func (l *look) fail(e api.Errno) { panic(met{e, l.at, l.at, len(l.b) - l.at}) }

// peek is the byte that comes next.
func (l *look) peek() byte {
	if l.at == len(l.b) {
		l.fail(api.ErrEnd)
	}
	return l.b[l.at]
}

// next takes a byte, if it is one of these, and says which.
func (l *look) next(of string) (int, bool) {
	i := strings.IndexByte(of, l.peek())
	if i >= 0 {
		l.at++
	}
	return i, i >= 0
}

func (l *look) num() int {
	n, next, e := leb.U(l.b, l.at, 32)
	if e != api.OK {
		l.fail(e)
	}
	l.at = next
	return int(n)
}

func (l *look) count() int {
	at := l.at
	n := l.num()
	if n > len(l.b)-l.at {
		l.at = at
		l.fail(api.ErrEnd)
	}
	return n
}

func (l *look) texts(one func() string) (s string) {
	for n := l.count(); n > 0; n-- {
		s += " " + one()
	}
	return s
}

func (l *look) heap() string {
	if n := names[l.peek()]; n != "" {
		l.at++
		return n
	}
	n, next, e := leb.S(l.b, l.at, 33)
	if e != api.OK {
		l.fail(e)
	}
	if n < 0 {
		l.fail(api.ErrForm)
	}
	l.at = next
	return strconv.FormatInt(n, 10)
}

func (l *look) val() string {
	if i, ok := l.next("\x7f\x7e"); ok {
		return []string{"i32", "i64"}[i]
	}
	if i, ok := l.next("\x64\x63"); ok {
		return []string{"(ref ", "(ref null "}[i] + l.heap() + ")"
	}
	if n := names[l.peek()]; n != "" {
		l.at++
		return "(ref null " + n + ")"
	}
	if _, ok := l.next("\x7d\x7c\x7b"); ok {
		l.at--
		l.fail(api.ErrKnown)
	}
	l.fail(api.ErrForm)
	return ""
}

func (l *look) vals() string { return strings.TrimPrefix(l.texts(l.val), " ") }

func (l *look) field() string {
	s := ""
	if i, ok := l.next("\x78\x77"); ok {
		s = []string{"i8", "i16"}[i]
	} else {
		s = l.val()
	}
	i, ok := l.next("\x00\x01")
	if !ok {
		l.fail(api.ErrForm)
	}
	return []string{s, "(mut " + s + ")"}[i]
}

// part is a list behind its head, or nothing, where it is empty.
func part(head, list string) string {
	if list == "" {
		return ""
	}
	return " (" + head + list + ")"
}

func (l *look) comp() string {
	i, ok := l.next("\x60\x5f\x5e")
	if !ok {
		l.fail(api.ErrForm)
	}
	switch i {
	case 0:
		params := part("param", l.texts(l.val))
		return "(func" + params + part("result", l.texts(l.val)) + ")"
	case 1:
		return "(struct" + l.texts(l.field) + ")"
	}
	return "(array " + l.field() + ")"
}

func (l *look) sub() string {
	i, ok := l.next("\x50\x4f")
	s := "(sub"
	if i != 0 || !ok {
		s += " final"
	}
	if ok {
		s += l.texts(func() string { return strconv.Itoa(l.num()) })
	}
	return s + " " + l.comp() + ")"
}

func (l *look) rec() string {
	if _, ok := l.next("\x4e"); ok {
		return strings.TrimPrefix(l.texts(l.sub), " ")
	}
	return l.sub()
}

// looked is what is read of the bytes, and how the reader stands then.
func looked(b []byte, read func(l *look) string) (s string, end met) {
	l := &look{b: b}
	defer func() {
		if x, ok := recover().(met); ok {
			s, end = "", x
		}
	}()
	s = read(l)
	return s, met{api.OK, 0, l.at, len(b) - l.at}
}

// heapText is a heap type's writing, by that of a reference.
func heapText(h api.Heap) string {
	if h == (api.Heap{}) {
		return ""
	}
	return strings.TrimSuffix(strings.TrimPrefix(kind.ValText(api.Val{Kind: api.VRef, Heap: h}), "(ref "), ")")
}

func valsText(l []api.Val) string {
	var out []string
	for _, v := range l {
		out = append(out, kind.ValText(v))
	}
	return strings.Join(out, " ")
}

func recText(l []api.Sub) string {
	var out []string
	for _, s := range l {
		out = append(out, kind.Text(s))
	}
	return strings.Join(out, " ")
}

// readHeap, and those below, ask a reader for a type, and tell its writing, and whether it is plain (or nothing).
func readHeap(r *Reader) (string, bool) {
	h := r.Heap()
	return heapText(h), h == api.Heap{} || kind.PlainVal(api.Val{Kind: api.VRef, Heap: h})
}

func readVal(r *Reader) (string, bool) {
	v := r.Val()
	return kind.ValText(v), v == api.Val{} || kind.PlainVal(v)
}

func readVals(r *Reader) (string, bool) {
	l := r.Vals()
	return valsText(l), !slices.ContainsFunc(l, func(v api.Val) bool { return !kind.PlainVal(v) })
}

func readRec(r *Reader) (string, bool) {
	l := r.Rec()
	return recText(l), !slices.ContainsFunc(l, func(s api.Sub) bool { return !kind.PlainSub(s) })
}

// held holds all that may be read of some bytes against the chapter.
func held(t *testing.T, b []byte) {
	t.Helper()
	for i, both := range []struct {
		read func(*Reader) (string, bool)
		look func(*look) string
	}{
		{readHeap, (*look).heap}, {readVal, (*look).val}, {readVals, (*look).vals}, {readRec, (*look).rec},
	} {
		r := Open(b)
		s, plain := both.read(r)
		want, end := looked(b, both.look)
		if s != want || !plain {
			t.Fatalf("%x, %d: %q, want %q (plain: %v)", b, i, s, want, plain)
		}
		expect(t, r, end, b, i)
		if end.e != api.OK {
			again, _ := both.read(r)
			if again != "" {
				t.Fatalf("%x, %d: %s behind an error", b, i, again)
			}
			expect(t, r, end, b, i)
		}
	}
}

// allOf tells all rows of so many bytes out of these.
func allOf(of string, long int, tell func([]byte)) {
	b := make([]byte, long)
	var fill func(at int)
	fill = func(at int) {
		if at == long {
			tell(b)
			return
		}
		for i := range len(of) {
			b[at] = of[i]
			fill(at + 1)
		}
	}
	fill(0)
}

func every() string {
	b := make([]byte, 256)
	for i := range b {
		b[i] = byte(i)
	}
	return string(b)
}

func TestP63Short(t *testing.T) {
	for long := range 3 {
		allOf(every(), long, func(b []byte) { held(t, b) })
	}
	for long := 3; long <= 4; long++ {
		allOf("\x00\x01\x02\x05\x4e\x4f\x50\x5e\x5f\x60\x63\x64\x6e\x77\x78\x7f\x7d\x80", long, func(b []byte) { held(t, b) })
	}
	allOf("\x00\x01\x10\x20\x63\x64\x7f\x80\xff", 5, func(b []byte) { held(t, b) })
	allOf("\x00\x01\x5f\x4e\x50\x7e", 7, func(b []byte) { held(t, b) })
}

// longs are groups and lists in which all stands that may.
func longs() []string {
	return []string{
		"\x4e\x02\x50\x00\x5f\x00\x4f\x01\x00\x5f\x01\x78\x01",
		"\x4e\x05\x60\x03\x7f\x63\x05\x64\x85\x00\x02\x6e\x7e\x50\x01\x07\x5f\x04\x78\x00\x77\x01\x7f\x01\x64\x6b\x00\x5e\x77\x00\x4f\x00\x5e\x63\x69\x01\x4f\x02\x80\x01\xff\xff\xff\xff\x0f\x60\x00\x00",
		"\x50\x03\x01\x80\x00\x02\x5e\x64\xff\xff\xff\xff\x0f\x01",
		"\x5e\x64\x80\x80\x80\x80\x00\x00",
		"\x0e\x7f\x7e\x74\x73\x72\x71\x70\x6f\x6e\x6d\x6c\x6b\x6a\x69",
		"\x05\x63\x74\x64\x69\x63\x3f\x64\xc0\x00\x63\xff\xff\xff\xff\x0f",
		"\x83\x00\x7f\x64\x00\x63\x80\x00",
		"\x4e\x81\x80\x00\x60\x80\x00\x81\x00\x7e",
		"\x64\x85\x00",
		"\x4e\x00",
	}
}

func TestP63Long(t *testing.T) {
	for _, s := range longs() {
		for cut := range len(s) + 1 {
			held(t, []byte(s[:cut]))
		}
		for _, behind := range []string{"\x00", "\x7f", "\x80", "\x4e\x01"} {
			held(t, []byte(s+behind))
		}
		for at := range len(s) {
			b := []byte(s)
			for x := range 256 {
				b[at] = byte(x)
				held(t, b)
			}
			held(t, slices.Delete([]byte(s), at, at+1))
			held(t, slices.Insert([]byte(s), at, s[at]))
		}
	}
}

// In a place behind others types are read as at the first one.
func TestP63Behind(t *testing.T) {
	r := Open([]byte("\xff\x05\x64\x05\x7d"))
	r.Take(2)
	if v := r.Val(); kind.ValText(v) != "(ref 5)" {
		t.Error(v)
	}
	expect(t, r, met{api.OK, 0, 4, 1})
	r.Val()
	expect(t, r, met{api.ErrKnown, 4, 4, 1})
	noughts(t, r)
}

// The errors that the chapter and its examples name, with their places.
func TestP63Errors(t *testing.T) {
	for i, c := range []struct {
		b    string
		read func(*Reader) (string, bool)
		e    api.Errno
		at   int
	}{
		{"\x7d", readVal, api.ErrKnown, 0}, {"\x7c", readVal, api.ErrKnown, 0}, {"\x7b", readVal, api.ErrKnown, 0}, {"\x7a", readVal, api.ErrForm, 0},
		{"\x64", readVal, api.ErrEnd, 1}, {"\x64\x7f", readVal, api.ErrForm, 1}, {"\x64\x7d", readVal, api.ErrForm, 1}, {"\x63\x40", readVal, api.ErrForm, 1},
		{"\x63\xee\x7f", readVal, api.ErrForm, 1}, {"\x63\x80", readVal, api.ErrEnd, 1}, {"\x63\xff\xff\xff\xff\x2f", readVal, api.ErrWide, 1},
		{"\x00", readVal, api.ErrForm, 0}, {"\xee\x7f", readVal, api.ErrForm, 0}, {"\x75", readVal, api.ErrForm, 0}, {"\x68", readVal, api.ErrForm, 0},
		{"\x7d", readHeap, api.ErrForm, 0}, {"\x75", readHeap, api.ErrForm, 0}, {"\x68", readHeap, api.ErrForm, 0}, {"", readHeap, api.ErrEnd, 0}, {"\xee\x7f", readHeap, api.ErrForm, 0},
		{"\x02\x7f", readVals, api.ErrEnd, 0}, {"\x02\x7f\x64", readVals, api.ErrEnd, 3}, {"\x02\x7f\x7c", readVals, api.ErrKnown, 2}, {"\x80", readVals, api.ErrEnd, 0},
		{"\x5f\x01\x7f\x02", readRec, api.ErrForm, 3}, {"\x5f\x01\x7d\x00", readRec, api.ErrKnown, 2}, {"\x5e\x7f", readRec, api.ErrEnd, 2}, {"\x5e\x79\x00", readRec, api.ErrForm, 1},
		{"\x60\x01\x78\x00", readRec, api.ErrForm, 2}, {"\x60\x00", readRec, api.ErrEnd, 2}, {"\x7d", readRec, api.ErrForm, 0}, {"", readRec, api.ErrEnd, 0},
		{"\x4e\x01\x4e\x00", readRec, api.ErrForm, 2}, {"\x50\x00\x50\x00\x5f\x00", readRec, api.ErrForm, 2}, {"\x50\x01\x80\x80\x80\x80\x10\x5f\x00", readRec, api.ErrWide, 2},
		{"\x4e\x02\x5f\x00", readRec, api.ErrEnd, 4}, {"\x4e\x03\x5f\x00", readRec, api.ErrEnd, 1}, {"\x4f\x02\x00", readRec, api.ErrEnd, 1}, {"\x4e", readRec, api.ErrEnd, 1},
	} {
		r := Open([]byte(c.b))
		if s, _ := c.read(r); s != "" {
			t.Errorf("%d, %x: %s", i, c.b, s)
		}
		expect(t, r, met{c.e, c.at, c.at, len(c.b) - c.at}, i, c.b)
		noughts(t, r, c.b)
	}
}

func TestP63Examples(t *testing.T) {
	for b, want := range map[string]string{"\x63\x6e": "(ref null any)", "\x6e": "(ref null any)", "\x64\x05": "(ref 5)", "\x64\x85\x00": "(ref 5)"} {
		if s, _ := readVal(Open([]byte(b))); s != want {
			t.Errorf("%x: %s", b, s)
		}
	}
	for b, want := range map[string]string{
		"\x60\x01\x7f\x00": "(sub final (func (param i32)))",
		"\x4e\x02\x50\x00\x5f\x00\x4f\x01\x00\x5f\x01\x78\x01": "(sub (struct)) (sub final 0 (struct (mut i8)))",
		"\x4e\x00": "",
	} {
		r := Open([]byte(b))
		if s, _ := readRec(r); s != want {
			t.Errorf("%x: %s", b, s)
		}
		expect(t, r, met{api.OK, 0, len(b), 0}, b)
	}
}

// No two lists of what is read share anything, nor do two readings.
func TestP63Apart(t *testing.T) {
	r := Open([]byte("\x60\x01\x7f\x01\x7e\x60\x01\x7f\x01\x7e"))
	a, b := r.Rec(), r.Rec()
	a[0].Comp.Params = append(a[0].Comp.Params, api.Val{})
	a[0].Comp.Params[0], a[0].Comp.Results[0] = api.Val{}, api.Val{}
	if recText(b) != "(sub final (func (param i32) (result i64)))" {
		t.Error(b)
	}
}
