package module

import (
	"bytes"
	"fmt"
	"math"
	"slices"
	"strconv"
	"strings"
	"testing"

	"geode/api"
	"geode/ibin"
	"geode/leb"
	"geode/tbin"
)

// The chapter's words, where they are rows of bytes.
const (
	elemWords  = "00 o f; 01 00 f; 02 t o 00 f; 03 00 f; 04 o x; 05 r x; 06 t o r x; 07 r x"
	limitWords = "00 Min; 01 Min, Max; 04 Min; 05 Min, Max"
	needWords  = "memory.init, data.drop, array.new_data or array.init_data"
)

// met is an error, and its place.
type met struct {
	e  api.Errno
	at int
}

// look reads bytes as the chapter tells it, each thing where it stands in the whole; what it can't read it leaves by a panic with what it met.
type look struct {
	b       []byte
	at, end int
	m       api.Module
	done    string // the sections that were there
	count   int
	needs   bool
}

func (l *look) fail(e api.Errno, at int) { panic(met{e, at}) }

// ask reads an item by layers 6 and 7.
func ask[T any](l *look, item func(*tbin.Reader) T) T {
	r := tbin.Open(l.b[l.at:l.end])
	x := item(r)
	if e, at := r.Err(); e != api.OK {
		l.fail(e, l.at+at)
	}
	l.at += r.At()
	return x
}

func (l *look) u(bits int) uint64 {
	n, next, e := leb.U(l.b[:l.end], l.at, bits)
	if e != api.OK {
		l.fail(e, l.at)
	}
	l.at = next
	return n
}

func (l *look) index() int { return int(l.u(32)) }

func (l *look) name() string       { return ask(l, (*tbin.Reader).Name) }
func (l *look) val() api.Val       { return ask(l, (*tbin.Reader).Val) }
func (l *look) row() []api.Instr   { return ask(l, ibin.Expr) }
func (l *look) byte() int          { return int(ask(l, (*tbin.Reader).Byte)) }
func (l *look) group() []api.Sub   { return ask(l, (*tbin.Reader).Rec) }
func (l *look) kind() api.ExKind   { return api.ExKind(l.below(5)) }
func (l *look) init() []api.Instr  { return []api.Instr{{Op: 0xd2, X: l.index()}} }
func (l *look) function() api.Func { return api.Func{Type: l.index()} }

// below reads a byte that must be less than n.
func (l *look) below(n int) int {
	at := l.at
	b := l.byte()
	if b >= n {
		l.fail(api.ErrForm, at)
	}
	return b
}

// long reads how many bytes follow, and tells where they end.
func (l *look) long() int {
	at := l.at
	n := l.index()
	if n > l.end-l.at {
		l.fail(api.ErrEnd, at)
	}
	return l.at + n
}

// inner reads what must be all that stands ahead of an end.
func (l *look) inner(end int, read func()) {
	was := l.end
	l.end = end
	read()
	if l.at != end {
		l.fail(api.ErrSize, l.at)
	}
	l.end = was
}

// some reads a list; want: how many things it must have, if it is not below 0.
func some[T any](l *look, want int, one func() T) (out []T) {
	at := l.at
	n := ask(l, (*tbin.Reader).Count)
	if want >= 0 && n != want {
		l.fail(api.ErrCount, at)
	}
	for range n {
		out = append(out, one())
	}
	return out
}

func (l *look) limits() (out api.Limits) {
	at := l.at
	b := l.byte()
	for words := range strings.SplitSeq(limitWords, "; ") {
		if words[:2] == fmt.Sprintf("%02x", b) {
			out.Min, out.Wide = l.u(64), b >= 4
			if strings.Contains(words, "Max") {
				out.Max, out.HasMax = l.u(64), true
			}
			return out
		}
	}
	l.fail(api.ErrForm, at)
	return out
}

func (l *look) ref() api.Val {
	at := l.at
	v := l.val()
	if v == i32 || v == i64 {
		l.fail(api.ErrForm, at)
	}
	return v
}

func (l *look) tableType() api.TableType {
	v := l.ref()
	return api.TableType{Elem: v, Limits: l.limits()}
}

func (l *look) globalType() api.GlobalType {
	v := l.val()
	return api.GlobalType{Val: v, Mut: l.below(2) == 1}
}

func (l *look) imported() (i api.Import) {
	i.Module = l.name()
	i.Name = l.name()
	i.What.Kind = l.kind()
	switch i.What.Kind {
	case 1:
		i.What.Table = l.tableType()
	case 2:
		i.What.Mem = l.limits()
	case 3:
		i.What.Global = l.globalType()
	case 4:
		l.below(1)
		fallthrough
	case 0:
		i.What.N = l.index()
	}
	return i
}

func (l *look) table() (t api.Table) {
	if l.at < l.end && l.b[l.at] == 0x40 {
		l.at++
		l.below(1)
		t.HasInit = true
	}
	t.Type = l.tableType()
	if t.HasInit {
		t.Init = l.row()
	}
	return t
}

func (l *look) tag() int {
	l.below(1)
	return l.index()
}

func (l *look) global() api.Global {
	t := l.globalType()
	return api.Global{Type: t, Init: l.row()}
}

func (l *look) export() (x api.Export) {
	x.Name = l.name()
	x.Kind = l.kind()
	x.N = l.index()
	return x
}

func (l *look) elem() api.Elem {
	words := strings.Fields(strings.Split(elemWords, "; ")[l.below(8)])
	e := api.Elem{Type: fnNull}
	switch words[0] {
	case "00", "02", "04", "06":
		e.Mode = api.SegActive
	case "03", "07":
		e.Mode = api.SegDeclared
	}
	for _, w := range words[1:] {
		switch w {
		case "00":
			l.below(1)
		case "o":
			e.Offset = l.row()
		case "t":
			e.Table = l.index()
		case "r":
			e.Type = l.ref()
		case "f":
			e.Type = funcs
			e.Inits = some(l, -1, l.init)
		case "x":
			e.Inits = some(l, -1, l.row)
		}
	}
	return e
}

func (l *look) data() (d api.Data) {
	b := l.below(3)
	if b == 2 {
		d.Mem = l.index()
	}
	if b != 1 {
		d.Mode = api.SegActive
		d.Offset = l.row()
	}
	end := l.long()
	d.Bytes = l.b[l.at:end]
	l.at = end
	return d
}

func (l *look) run() api.Run {
	n := l.index()
	return api.Run{N: n, Val: l.val()}
}

func (l *look) code() (f api.Func) {
	l.inner(l.long(), func() {
		at := l.at
		f.Locals = some(l, -1, l.run)
		sum := 0
		for _, r := range f.Locals {
			sum += r.N
		}
		if sum > math.MaxUint32 {
			l.fail(api.ErrWide, at)
		}
		f.Body = l.row()
	})
	for _, i := range f.Body {
		l.needs = l.needs || slices.Contains([]api.Op{0xfc08, 0xfc09, 0xfb09, 0xfb12}, i.Op)
	}
	return f
}

func (l *look) has(number byte) bool { return strings.IndexByte(l.done, number) >= 0 }

func (l *look) content(number byte) {
	switch number {
	case 1:
		l.m.Types = some(l, -1, l.group)
	case 2:
		l.m.Imports = some(l, -1, l.imported)
	case 3:
		l.m.Funcs = some(l, -1, l.function)
	case 4:
		l.m.Tables = some(l, -1, l.table)
	case 5:
		l.m.Mems = some(l, -1, l.limits)
	case 13:
		l.m.Tags = some(l, -1, l.tag)
	case 6:
		l.m.Globals = some(l, -1, l.global)
	case 7:
		l.m.Exports = some(l, -1, l.export)
	case 8:
		l.m.Start = l.index()
	case 9:
		l.m.Elems = some(l, -1, l.elem)
	case 12:
		l.count = l.index()
	case 10:
		for i, f := range some(l, len(l.m.Funcs), l.code) {
			f.Type = l.m.Funcs[i].Type
			l.m.Funcs[i] = f
		}
	case 11:
		want := -1
		if l.has(12) {
			want = l.count
		}
		l.m.Datas = some(l, want, l.data)
	}
}

func (l *look) section() {
	at := l.at
	number := byte(l.byte())
	if number > 13 {
		l.fail(api.ErrForm, at)
	}
	if number == 0 {
		end := l.long()
		was := l.end
		l.end = end
		l.name()
		l.at, l.end = end, was
		return
	}
	// Nothing that stands no later may have been there.
	if strings.ContainsAny(l.done, rising[strings.IndexByte(rising, number):]) {
		l.fail(api.ErrOrder, at)
	}
	l.inner(l.long(), func() { l.content(number) })
	l.done += string(number)
}

func (l *look) whole() {
	if !bytes.HasPrefix(l.b, []byte(first)) {
		l.fail(api.ErrMagic, 0)
	}
	for l.at = len(first); l.at < len(l.b); {
		l.section()
	}
	if len(l.m.Funcs) > 0 && !l.has(10) || l.count > 0 && !l.has(11) || l.needs && !l.has(12) {
		l.fail(api.ErrCount, len(l.b))
	}
}

// looked is the module of some bytes, or what was met.
func looked(b []byte) (m api.Module, end met) {
	l := &look{b: b, end: len(b), m: api.Module{Start: -1}}
	defer func() {
		if x := recover(); x != nil {
			end = x.(met)
			m = api.Module{Start: -1}
		}
	}()
	l.whole()
	return l.m, met{}
}

func errOf(b string) met {
	_, e, at := Read([]byte(b))
	return met{e, at}
}

// held holds what is read of some bytes against the chapter, and what follows of it.
func held(t *testing.T, b []byte) {
	t.Helper()
	m, e, at := Read(b)
	want, end := looked(b)
	if end != (met{e, at}) {
		t.Fatalf("%x: %d at %d, want %v", b, e, at, end)
	}
	if !equal(m, want) {
		t.Fatalf("%x: %+v, want %+v", b, m, want)
	}
	if e != api.OK {
		return
	}
	if !May(m) {
		t.Fatalf("%x: what is read may not be: %+v", b, m)
	}
	put, e := Put(m)
	if e != api.OK || len(put) > len(b) {
		t.Fatalf("%x: %d %x", b, e, put)
	}
	again, e, at := Read(put)
	if e != api.OK || at != 0 || !Same(again, m) || !equal(again, m) {
		t.Fatalf("%x: %x: %d at %d", b, put, e, at)
	}
}

// allOf tells all rows of so many bytes out of these.
func allOf(of string, long int, tell func(string)) {
	if long == 0 {
		tell("")
		return
	}
	for i := range len(of) {
		allOf(of, long-1, func(s string) { tell(of[i:i+1] + s) })
	}
}

func every() string {
	b := make([]byte, 256)
	for i := range b {
		b[i] = byte(i)
	}
	return string(b)
}

func TestP81Samples(t *testing.T) {
	modules(func(want api.Module, b string) {
		m, e, at := Read([]byte(b))
		if e != api.OK || at != 0 || !equal(m, want) {
			t.Fatalf("%x: %d at %d: %+v, want %+v", b, e, at, m, want)
		}
		if want, end := looked([]byte(b)); end != (met{}) || !equal(m, want) {
			t.Fatalf("%x: %v", b, end)
		}
	})
}

// All short rows of bytes as a module's first ones, and as all that follows the first eight.
func TestP81Short(t *testing.T) {
	check := func(s string) { held(t, []byte(s)) }
	for long := range 3 {
		allOf(every(), long, check)
		allOf(every(), long, func(s string) { check(first + s) })
	}
	for cut := range len(first) {
		check(first[:cut])
		for x := range 256 {
			b := []byte(first)
			b[cut] = byte(x)
			check(string(b))
			check(string(b) + "\x05\x01\x00")
		}
	}
	allOf("\x00\x01\x02\x03\x05\x08\x0c", 5, func(s string) { check(first + s) })
	allOf("\x00\x01\x02\x0a\x0b", 6, func(s string) { check(first + "\x03\x02\x01\x00" + s) })
	allOf("\x00\x01\x02\x03\x0b\x0c", 5, func(s string) { check(first + "\x0c\x01\x01" + s) })
}

// All short rows of bytes as a section's content.
func TestP81Contents(t *testing.T) {
	for number := range byte(15) {
		check := func(s string) { held(t, []byte(first+sec(number, s))) }
		for long := range 2 {
			allOf(every(), long, check)
		}
		for _, x := range []string{"\x00", "\x01", "\x02", "\x80", "\xff"} {
			allOf(every(), 1, func(s string) { check(x + s) })
		}
		allOf(every(), 1, func(s string) {
			allOf("\x00\x01\x0b\x40\x70", 2, func(r string) { check("\x01" + s + r) })
		})
		allOf("\x00\x01\x02\x04\x0b\x40\x64\x70\x7f\x80", 4, func(s string) { check("\x01" + s) })
		allOf("\x00\x01\x04\x0b\x70", 5, func(s string) { check("\x02" + s) })
		allOf("\x00\x01\x04\x0b\x70\x7f", 5, func(s string) { check("\x01\x00\x00" + s) })
		allOf("\x00\x01\x05\x0b\x40\x70\x7f", 5, func(s string) { check("\x01" + s) })
	}
	for form := range byte(9) {
		check := func(s string) { held(t, []byte(first+sec(9, "\x01"+string(form)+s))) }
		allOf("\x00\x01\x0b\x70\x7f\xd2", 5, check)
		allOf("\x00\x0b\x64\x70", 6, check)
	}
	allOf("\x00\x01\x02\x03\x0b\x7f\x80", 5, func(s string) {
		held(t, []byte(first+sec(3, "\x01\x00")+sec(10, "\x01"+s)))
	})
}

// wholes are modules with all sections, in which things stand that are written short and long.
func wholes() []string {
	group := "\x02\x60\x00\x00\x4e\x02\x50\x80\x00\x5f\x00\x4f\x01\x00\x5e\x78\x01"
	imports := "\x05\x01a\x03b\xc3\xa9\x00\x00\x00\x00\x01\x63\x6e\x01\x01\x82\x00\x01c\x00\x02\x04\x07\x00\x00\x03\x7e\x01\x00\x00\x04\x00\x01"
	long := first + sec(0, "\x01zzz") + sec(1, group) + sec(2, imports) + sec(3, "\x02\x00\x80\x00") + sec(0, "\x00") +
		sec(4, "\x02\x70\x00\x01\x40\x00\x64\x70\x05\x01\x02\xd2\x00\x0b") + sec(5, "\x02\x00\x01\x05\x01\x02") + sec(13, "\x01\x00\x81\x00") +
		sec(6, "\x02\x7f\x00\x41\x00\x0b\x6e\x01\xd0\x6e\x0b") + sec(7, "\x02\x01f\x00\x00\x00\x04\x01") + sec(8, "\x80\x00") +
		sec(9, "\x04\x00\x41\x00\x0b\x01\x00\x02\x00\x0b\x00\x01\x81\x00\x05\x70\x01\xd2\x00\x0b\x06\x00\x0b\x70\x00") + sec(12, "\x82\x00") +
		sec(10, "\x02\x08\x02\x01\x7f\x00\x70\x20\x00\x0b\x86\x00\x00\xfc\x09\x81\x00\x0b") + sec(11, "\x02\x00\x41\x00\x0b\x01x\x01\x02yz") + sec(0, "\x02abc")
	forms := first + sec(4, "\x01\x70\x00\x00") + sec(9, "\x07\x01\x00\x01\x00\x03\x00\x01\x01\x04\x0b\x01\x0b\x05\x70\x01\x0b\x07\x6e\x01\x0b\x02\x01\x0b\x00\x01\x02\x06\x01\x0b\x6e\x01\x0b") +
		sec(11, "\x03\x00\x0b\x00\x02\x80\x01\x0b\x01\x00\x02\x00\x0b\x00")
	code := first + sec(1, "\x01\x60\x00\x00") + sec(3, "\x04\x00\x00\x00\x00") + sec(12, "\x00") +
		sec(10, "\x04\x06\x00\xfc\x08\x00\x00\x0b\x0d\x02\xfe\xff\xff\xff\x0f\x7f\x01\x7e\x02\x40\x0b\x0b\x08\x00\x04\x40\x01\x05\x01\x0b\x0b\x06\x00\xfb\x12\x00\x01\x0b") + sec(11, "\x00")
	return []string{long, forms, code}
}

func TestP81Long(t *testing.T) {
	for _, s := range wholes() {
		if end := errOf(s); end != (met{}) {
			t.Fatalf("%x: %v", s, end)
		}
		for cut := range len(s) + 1 {
			held(t, []byte(s[:cut]))
		}
		for at := len(first); at < len(s); at++ {
			b := []byte(s)
			for x := range 256 {
				b[at] = byte(x)
				held(t, b)
			}
			held(t, slices.Delete([]byte(s), at, at+1))
			held(t, slices.Insert([]byte(s), at, s[at]))
		}
	}
}

// parts are the sections of a module behind its first bytes.
func parts(s string) []string {
	var l []string
	for at := len(first); at < len(s); {
		n, next, _ := leb.U([]byte(s), at+1, 32)
		l = append(l, s[at:next+int(n)])
		at = next + int(n)
	}
	return l
}

// What stands in a section grows, or is cut, with its number, so that all behind it stands where it should.
func TestP81Resized(t *testing.T) {
	for _, s := range wholes() {
		l := parts(s)
		with := func(k int, content string) {
			changed := slices.Clone(l)
			changed[k] = sec(l[k][0], content)
			held(t, []byte(first+strings.Join(changed, "")))
		}
		for k, p := range l {
			_, next, _ := leb.U([]byte(p), 1, 32)
			content := p[next:]
			with(k, content+"\x00")
			with(k, content+"\x0b")
			for at := range len(content) {
				with(k, content[:at])
				with(k, content[at:])
				with(k, content[:at]+content[at+1:])
				for _, x := range "\x00\x01\x0b\x7f" {
					with(k, content[:at]+string(x)+content[at:])
				}
			}
			// Nothing behind it, or ahead of it; it twice; another number.
			held(t, []byte(first+strings.Join(l[:k+1], "")))
			held(t, []byte(first+strings.Join(l[k:], "")))
			held(t, []byte(first+strings.Join(slices.Insert(slices.Clone(l), k, p), "")))
			held(t, []byte(first+strings.Join(slices.Delete(slices.Clone(l), k, k+1), "")))
			for number := range byte(16) {
				changed := slices.Clone(l)
				changed[k] = string(number) + p[1:]
				held(t, []byte(first+strings.Join(changed, "")))
			}
		}
	}
}

// empties are contents of sections that have nothing.
func empty(number byte) string {
	if number == 0 {
		return sec(0, "\x00")
	}
	return sec(number, "\x00")
}

func TestP81Order(t *testing.T) {
	for a := range byte(14) {
		for b := range byte(14) {
			for c := range byte(14) {
				s := first + empty(a) + empty(b) + empty(c)
				held(t, []byte(s))
				want, last := met{}, -1
				for i, number := range []byte{a, b, c} {
					place := strings.IndexByte(rising, number)
					if place >= 0 && place <= last && want == (met{}) {
						want = met{api.ErrOrder, 8 + 3*i}
					}
					last = max(last, place)
				}
				if got := errOf(s); got != want {
					t.Fatalf("%x: %v, want %v", s, got, want)
				}
			}
		}
	}
	s := first
	for _, number := range []byte(rising) {
		s += empty(0) + empty(number) + sec(0, "\x01nwhatever\xff") + empty(0)
	}
	m, e, at := Read([]byte(s))
	if e != api.OK || at != 0 || !equal(m, api.Module{Start: 0}) {
		t.Errorf("%+v %d %d", m, e, at)
	}
	for number := 14; number < 256; number++ {
		for _, behind := range []string{"", "\x00", "\xff", "\x01\x00"} {
			if got := errOf(s + string([]byte{byte(number)}) + behind); got != (met{api.ErrForm, len(s)}) {
				t.Errorf("%x: %v", number, got)
			}
		}
	}
}

// at is an error, with its place counted from behind the first eight bytes on.
type at struct {
	b  string
	e  api.Errno
	at int
}

func hold(t *testing.T, l []at) {
	t.Helper()
	for _, c := range l {
		b := []byte(first + raw(c.b))
		m, e, place := Read(b)
		if e != c.e || place != 8+c.at || !equal(m, api.Module{Start: -1}) {
			t.Errorf("%s: %d at %d, want %d at %d", c.b, e, place-8, c.e, c.at)
		}
		held(t, b)
		// The same behind a section that says nothing.
		if got := errOf(first + "\x00\x04\x01zab" + raw(c.b)); got != (met{c.e, 14 + c.at}) {
			t.Errorf("%s, behind: %v", c.b, got)
		}
	}
}

func TestP81Sections(t *testing.T) {
	for _, s := range []string{"", "\x00", "\x00asm\x01\x00\x00", "\x00asm\x02\x00\x00\x00", "\x01asm\x01\x00\x00\x00", "\x00asm\x01\x00\x00\x01\x0e", "\x00asn\x01\x00\x00\x00", "asm\x01\x00\x00\x00\x00", "\x00\x00asm\x01\x00\x00\x00"} {
		if errOf(s) != (met{api.ErrMagic, 0}) {
			t.Errorf("%x: %v", s, errOf(s))
		}
	}
	hold(t, []at{
		{"0e", api.ErrForm, 0}, {"0e00", api.ErrForm, 0}, {"ff", api.ErrForm, 0}, {"80 00", api.ErrForm, 0}, {"0501000e", api.ErrForm, 3},
		{"05010005", api.ErrOrder, 3}, {"0501000501", api.ErrOrder, 3}, {"050100 040100", api.ErrOrder, 3}, {"050100 000100 050100", api.ErrOrder, 6}, {"0a0100 0c0100", api.ErrOrder, 3}, {"0c0100 090100", api.ErrOrder, 3}, {"0b0100 0a0100", api.ErrOrder, 3}, {"060100 0d0100", api.ErrOrder, 3}, {"0d0100 050100", api.ErrOrder, 3}, {"0c0100 0c0100", api.ErrOrder, 3}, {"0d0100 0d0100", api.ErrOrder, 3}, {"080100 080100", api.ErrOrder, 3},
		{"05", api.ErrEnd, 1}, {"00", api.ErrEnd, 1}, {"0580", api.ErrEnd, 1}, {"05ffffffff1f", api.ErrWide, 1}, {"05808080808000", api.ErrWide, 1}, {"0503", api.ErrEnd, 1}, {"05020000 00", api.ErrSize, 3}, {"050300", api.ErrEnd, 1}, {"05ffffffff0f00", api.ErrEnd, 1}, {"0001", api.ErrEnd, 1}, {"0002 00", api.ErrEnd, 1}, {"05820000", api.ErrEnd, 1},
		{"0000", api.ErrEnd, 2}, {"0001 01", api.ErrEnd, 2}, {"0001 80", api.ErrEnd, 2}, {"0002 0261", api.ErrEnd, 2}, {"0002 01ff", api.ErrName, 2}, {"0003 02c361", api.ErrName, 2}, {"0006 ffffffff1f00", api.ErrWide, 2}, {"0002 0261 61", api.ErrEnd, 2},
		{"0500", api.ErrEnd, 2}, {"0500 00", api.ErrEnd, 2}, {"0501 01", api.ErrEnd, 2}, {"0501 01 0000", api.ErrEnd, 2}, {"0501 80", api.ErrEnd, 2}, {"0502 8100", api.ErrEnd, 2}, {"0505 ffffffff1f", api.ErrWide, 2}, {"0505 ffffffff0f", api.ErrEnd, 2},
		{"0502 0000", api.ErrSize, 3}, {"0504 01000700", api.ErrSize, 5}, {"0103 016000", api.ErrEnd, 5}, {"0104 00600000", api.ErrSize, 3}, {"0802 0000", api.ErrSize, 3}, {"0802 8000 0800", api.ErrOrder, 4}, {"0c02 0000", api.ErrSize, 3}, {"0c00", api.ErrEnd, 2}, {"0800", api.ErrEnd, 2}, {"0803 808080", api.ErrEnd, 2}, {"0c05 ffffffff1f", api.ErrWide, 2}, {"0805 8080808010", api.ErrWide, 2},
	})
}

func TestP81Items(t *testing.T) {
	hold(t, []at{
		{"0104 015f017d", api.ErrKnown, 5}, {"0105 015f017d00", api.ErrKnown, 5}, {"0104 01600100", api.ErrForm, 5}, {"0102 0161", api.ErrForm, 3}, {"0103 01607d", api.ErrEnd, 4}, {"0102 017f", api.ErrForm, 3}, {"0102 014e", api.ErrEnd, 4}, {"0104 025f005f", api.ErrEnd, 6}, {"0105 015f017f02", api.ErrForm, 6},
		{"0201 01", api.ErrEnd, 2}, {"0203 010161", api.ErrEnd, 5}, {"0203 0101ff", api.ErrName, 3}, {"0204 010001ff", api.ErrName, 4}, {"0203 010000", api.ErrEnd, 5}, {"0205 0100000500", api.ErrForm, 5}, {"0205 010000ff00", api.ErrForm, 5}, {"0205 0100008000", api.ErrForm, 5}, {"0204 01000000", api.ErrEnd, 6}, {"0204 01000004", api.ErrEnd, 6}, {"0206 010000040100", api.ErrForm, 6}, {"0205 0100000400", api.ErrEnd, 7}, {"0209 010000008080808010", api.ErrWide, 6},
		{"0207 010000017f0000", api.ErrForm, 6}, {"0207 010000017e0000", api.ErrForm, 6}, {"0207 010000017d0000", api.ErrKnown, 6}, {"0207 01000001400000", api.ErrForm, 6}, {"0207 01000001700200", api.ErrForm, 7}, {"0206 010000030002", api.ErrForm, 6}, {"0206 010000037f02", api.ErrForm, 7}, {"0205 010000037f", api.ErrEnd, 7}, {"0206 010000020300", api.ErrForm, 6}, {"0206 010000020100", api.ErrEnd, 8}, {"0206 010000037c00", api.ErrKnown, 6}, {"0206 010000037f80", api.ErrForm, 7}, {"0203 010261", api.ErrEnd, 3},
		{"0301 01", api.ErrEnd, 2}, {"0302 0180", api.ErrEnd, 3}, {"0306 018080808010", api.ErrWide, 3}, {"0302 0200", api.ErrEnd, 2}, {"0303 010000", api.ErrSize, 4},
		{"0404 017f0000", api.ErrForm, 3}, {"0404 017e0000", api.ErrForm, 3}, {"0404 017b0000", api.ErrKnown, 3}, {"0404 017c0000", api.ErrKnown, 3}, {"0404 01780000", api.ErrForm, 3}, {"0403 017002", api.ErrForm, 4}, {"0403 017003", api.ErrForm, 4}, {"0403 017006", api.ErrForm, 4}, {"0403 0170ff", api.ErrForm, 4}, {"0403 017000", api.ErrEnd, 5}, {"0402 0170", api.ErrEnd, 4}, {"0404 01700100", api.ErrEnd, 6}, {"040e 017000ffffffffffffffffff020000", api.ErrWide, 5}, {"0404 01640000", api.ErrEnd, 6}, {"0405 0164ff7f00", api.ErrForm, 4}, {"0404 0164ff00", api.ErrEnd, 6},
		{"0402 0140", api.ErrEnd, 4}, {"0406 014001700000", api.ErrForm, 4}, {"0406 014040700000", api.ErrForm, 4}, {"0407 014000400000 00", api.ErrForm, 5}, {"0406 014000700000", api.ErrEnd, 8}, {"0407 0140007f00000b", api.ErrForm, 5}, {"0407 0140007d00000b", api.ErrKnown, 5}, {"0407 01400070000006", api.ErrForm, 8}, {"0408 0140007000000b0b", api.ErrSize, 9}, {"0405 0170000000", api.ErrSize, 6}, {"0406 017000000b0b", api.ErrSize, 6}, {"0407 014000700000fd", api.ErrKnown, 8},
		{"0503 010207", api.ErrForm, 3}, {"0503 010307", api.ErrForm, 3}, {"0503 010607", api.ErrForm, 3}, {"0503 010807", api.ErrForm, 3}, {"0503 018007", api.ErrForm, 3}, {"0502 0100", api.ErrEnd, 4}, {"0502 0102", api.ErrForm, 3}, {"0503 010100", api.ErrEnd, 5}, {"0503 010500", api.ErrEnd, 5}, {"0504 01040000", api.ErrSize, 5}, {"0505 0105000000", api.ErrSize, 6}, {"050d 0101 00 80808080808080808002", api.ErrWide, 5},
		{"0d03 010100", api.ErrForm, 3}, {"0d02 0100", api.ErrEnd, 4}, {"0d03 018000", api.ErrForm, 3}, {"0d07 01008080808010", api.ErrWide, 4},
		{"0603 017d00", api.ErrKnown, 3}, {"0604 0140000b", api.ErrForm, 3}, {"0604 017f020b", api.ErrForm, 4}, {"0602 017f", api.ErrEnd, 4}, {"0603 017f00", api.ErrEnd, 5}, {"0604 017f0005", api.ErrForm, 5}, {"0605 017f000b0b", api.ErrSize, 6}, {"0605 017f004300", api.ErrKnown, 5}, {"0605 017f004100", api.ErrEnd, 7}, {"0605 017f0041 00 0b", api.ErrEnd, 7}, {"0606 027f000b7f00", api.ErrEnd, 8},
		{"0704 01000500", api.ErrForm, 4}, {"0704 0100ff00", api.ErrForm, 4}, {"0703 010000", api.ErrEnd, 5}, {"0702 0100", api.ErrEnd, 4}, {"0704 0101ff00", api.ErrName, 3}, {"0708 01000080808080 10", api.ErrWide, 5}, {"0705 0100000000", api.ErrSize, 6}, {"0703 010361", api.ErrEnd, 3},
	})
}

func TestP81Segments(t *testing.T) {
	hold(t, []at{
		{"0902 0108", api.ErrForm, 3}, {"0903 018000", api.ErrForm, 3}, {"0902 01ff", api.ErrForm, 3}, {"0902 0100", api.ErrEnd, 4}, {"0903 01000b", api.ErrEnd, 5}, {"0903 010006", api.ErrForm, 4}, {"0904 01000b01", api.ErrEnd, 5}, {"0905 01000b0000", api.ErrSize, 6},
		{"0904 01010100", api.ErrForm, 4}, {"0904 01017000", api.ErrForm, 4}, {"0902 0101", api.ErrEnd, 4}, {"0904 01030100", api.ErrForm, 4}, {"0906 0102000b0100", api.ErrForm, 6}, {"0905 0102000b00", api.ErrEnd, 7}, {"0903 010200", api.ErrEnd, 5}, {"0908 0102808080801000", api.ErrWide, 4}, {"0905 0101000200", api.ErrEnd, 5}, {"090a 01010001ffffffff1f00", api.ErrWide, 6},
		{"0904 01040b01", api.ErrEnd, 5}, {"0905 01040b01d2", api.ErrEnd, 7}, {"0905 01040b0105", api.ErrForm, 6}, {"0904 01057f00", api.ErrForm, 4}, {"0904 01057d00", api.ErrKnown, 4}, {"0904 01050000", api.ErrForm, 4}, {"0904 01054000", api.ErrForm, 4}, {"0904 01077e00", api.ErrForm, 4}, {"0904 01077b00", api.ErrKnown, 4}, {"0906 0106000b7f00", api.ErrForm, 6}, {"0906 0106000b7c00", api.ErrKnown, 6}, {"0903 010570", api.ErrEnd, 5}, {"0904 01056400", api.ErrEnd, 6}, {"0905 0105700000", api.ErrSize, 6}, {"0906 0105 70 01 2a 0b", api.ErrKnown, 6},
		{"0b02 0103", api.ErrForm, 3}, {"0b03 018000", api.ErrForm, 3}, {"0b02 0101", api.ErrEnd, 4}, {"0b03 010101", api.ErrEnd, 4}, {"0b04 01010200", api.ErrEnd, 4}, {"0b03 010180", api.ErrEnd, 4}, {"0b07 0101ffffffff1f", api.ErrWide, 4}, {"0b04 01010000", api.ErrSize, 5}, {"0b02 0100", api.ErrEnd, 4}, {"0b03 010006", api.ErrForm, 4}, {"0b03 01000b", api.ErrEnd, 5}, {"0b04 01000b01", api.ErrEnd, 5}, {"0b04 01000b01 61", api.ErrEnd, 5}, {"0b04 0102000b", api.ErrEnd, 6}, {"0b08 0102808080801000", api.ErrWide, 4}, {"0b03 010200", api.ErrEnd, 5}, {"0b05 0200 0b 0061", api.ErrForm, 6}, {"0b05 0101ff0061", api.ErrEnd, 4},
	})
}

func TestP81Codes(t *testing.T) {
	hold(t, []at{
		{"03020100", api.ErrCount, 4}, {"03020100 000100", api.ErrCount, 7}, {"0a020100", api.ErrCount, 2}, {"0a0101", api.ErrEnd, 2}, {"03020100 0a0100", api.ErrCount, 6}, {"03020100 0a050202000b00", api.ErrCount, 6}, {"0303020000 0a040102000b", api.ErrCount, 7}, {"03020100 0a0102", api.ErrEnd, 6}, {"0a0180", api.ErrEnd, 2}, {"0a05ffffffff1f", api.ErrWide, 2}, {"030100 0a020100", api.ErrCount, 5}, {"03020100 0a0181", api.ErrEnd, 6}, {"03020100 0a03800000", api.ErrCount, 6}, {"03020100 0e", api.ErrForm, 4},
		{"03020100 0a020100", api.ErrEnd, 8}, {"03020100 0a020101", api.ErrEnd, 7}, {"03020100 0a03010200", api.ErrEnd, 7}, {"03020100 0a0401ff000b", api.ErrEnd, 7}, {"03020100 0a020180", api.ErrEnd, 7}, {"03020100 0a0601ffffffff1f", api.ErrWide, 7}, {"03020100 0a040102000b 0e", api.ErrForm, 10}, {"03020100 0a03010100", api.ErrEnd, 9}, {"03020100 0a03010180", api.ErrEnd, 8}, {"03020100 0a040102010b", api.ErrEnd, 10}, {"03020100 0a040102020b", api.ErrEnd, 8}, {"03020100 0a040102000b00", api.ErrEnd, 11},
		{"03020100 0a050103000b0b", api.ErrSize, 10}, {"03020100 0a050102000b0b", api.ErrSize, 10}, {"03020100 0a04010101 0b", api.ErrEnd, 8}, {"03020100 0a0601 04 01 05 7d 0b", api.ErrKnown, 10}, {"03020100 0a0601 04 01 05 40 0b", api.ErrForm, 10}, {"03020100 0a050103000601", api.ErrForm, 9}, {"03020100 0a050103002a0b", api.ErrKnown, 9}, {"03020100 0a0501030002 40", api.ErrEnd, 11}, {"0303020000 0a070202000102000b", api.ErrEnd, 11}, {"03020100 0a0a 01 08 01 ffffffff1f 7f 0b", api.ErrWide, 9},
		// Too many locals, told behind the errors of the list, ahead of those of the row.
		{"03020100 0a0c 01 0a 02 ffffffff0f 7f 01 7f 0b", api.ErrWide, 8}, {"03020100 0a0d 01 0b 8200 ffffffff0f 7f 01 7f 06", api.ErrWide, 8}, {"03020100 0a0c 01 0a 02 ffffffff0f 7f 01 7d 0b", api.ErrKnown, 16}, {"03020100 0a0c 01 0a 02 ffffffff0f 7f 01 40 0b", api.ErrForm, 16}, {"03020100 0a0b 01 09 02 ffffffff0f 7f 01 7f", api.ErrWide, 8}, {"03020100 0a0a 01 08 02 ffffffff0f 7f 01", api.ErrEnd, 16}, {"03020100 0a0c 01 0a 02 feffffff0f 7f 02 7f 0b", api.ErrWide, 8}, {"03020100 0a10 01 0e 02 ffffffff0f 7f ffffffff0f 7e 0b", api.ErrWide, 8}, {"03020100 0a12 01 10 03 8080808008 7f 00 7e 8080808008 7e 0b", api.ErrWide, 8},
	})
	for s, want := range map[string][]api.Run{
		"0a 01 08 01 ffffffff0f 7f 0b":             {{N: math.MaxUint32, Val: i32}},
		"0e 01 0c 03 feffffff0f 7f 01 7e 00 7f 0b": {{N: math.MaxUint32 - 1, Val: i32}, {N: 1, Val: i64}, {Val: i32}},
	} {
		m, e, _ := Read([]byte(first + raw("03020100 0a"+s)))
		if e != api.OK || !slices.Equal(m.Funcs[0].Locals, want) {
			t.Errorf("%s: %+v %d", s, m, e)
		}
	}
}

// What must agree, and is told ahead of what stands behind it.
func TestP81Counts(t *testing.T) {
	code := func(row string) string { return "03020100 0a" + hexed(sec(0, "\x01"+sec(0, "\x00"+raw(row))[1:])[1:]) }
	counted := func(many, row string) string {
		return strings.Replace(code(row), " 0a", " 0c01"+many+" 0a", 1)
	}
	hold(t, []at{
		{"0c0101", api.ErrCount, 3}, {"0c05ffffffff0f", api.ErrCount, 7}, {"0c0101 0b0100", api.ErrCount, 5}, {"0c0100 0b03010100", api.ErrCount, 5}, {"0c0102 0b03010100", api.ErrCount, 5}, {"0c0102 0b03010300", api.ErrCount, 5}, {"0c0101 0b050201000100", api.ErrCount, 5}, {"0c0101 0b0180", api.ErrEnd, 5}, {"0c0100 0b0101", api.ErrEnd, 5}, {"0c0101 0b00", api.ErrEnd, 5}, {"0c0101 0b028000", api.ErrCount, 5}, {"0c0101 0b05ffffffff1f", api.ErrWide, 5}, {"0c0101 000100", api.ErrCount, 6}, {"0c0101 0b03010300", api.ErrForm, 6}, {"0c020161", api.ErrSize, 3},
		{code("fc0800000b"), api.ErrCount, 14}, {code("fc09000b"), api.ErrCount, 13}, {code("fb0900000b"), api.ErrCount, 14}, {code("fb1200000b"), api.ErrCount, 14}, {code("fc8900000b"), api.ErrCount, 14}, {code("0240fc09000b0b"), api.ErrCount, 16}, {code("fc09000b") + "0b0100", api.ErrCount, 16}, {code("fc09000b") + "0b03010100", api.ErrCount, 18}, {code("fc09000b") + "0b03010300", api.ErrForm, 16}, {code("fc09000b") + "00020061", api.ErrCount, 17},
		{counted("01", "fc09000b"), api.ErrCount, 16}, {"0303020000 0a0a0202000b0500fc09000b", api.ErrCount, 17}, {counted("01", "0b"), api.ErrCount, 13},
	})
	for s, want := range map[string]int{
		"0c0100": 0, "0c028000": 0, "0c0100 0b0100": 0, "0b0100": 0, "0b03010100": 1, "0b0501010161 00": -1, "0c0101 0b03010100": 1, "0c0102 0b050201000100": 2, "0c028200 0b0682000100 0100": 2, "0a0100": 0, "030100": 0, "030100 0a0100": 0, "0a028000": 0,
		counted("00", "fc09000b"): 0, counted("00", "fc0800000b") + "0b0100": 0, counted("01", "fb0900000b") + "0b03010100": 1, counted("00", "0b"): 0, code("0b"): 0, code("fb0a00000b"): 0, code("fc0a00000b"): 0, code("fb1300000b"): 0, code("fc0d000b"): 0, code("fb0a00000b") + "0b03010100": 1,
		// Other rows than codes need no section 12.
		"0607017f00fc09000b": 0, "0b06 0100fc09000b00": -1, "0b07 0100fc09000b00": 1, "0908 0105700 1fc09000b": 0, "0907 01 00 fc09000b 00": 0, "040a 014000700000fc09000b": 0,
	} {
		m, e, at := Read([]byte(first + raw(s)))
		if (e == api.OK) != (want >= 0) || want >= 0 && (at != 0 || len(m.Datas) != want) {
			t.Errorf("%s: %d at %d: %+v", s, e, at, m)
		}
		held(t, []byte(first+raw(s)))
	}
}

func hexed(s string) string {
	var b strings.Builder
	for i := range len(s) {
		b.WriteString(strconv.FormatInt(int64(s[i])+256, 16)[1:])
	}
	return b.String()
}

func TestP81Examples(t *testing.T) {
	for b, want := range map[string]api.Module{
		"": {Start: -1},
		"01 04 01 60 00 00 03 02 01 00 0a 04 01 02 00 0b": {Start: -1, Types: [][]api.Sub{{{Final: true, Comp: api.Comp{Kind: api.CFunc}}}}, Funcs: []api.Func{{}}},
		"00 02 01 61 05 03 01 00 07":                      {Start: -1, Mems: []api.Limits{{Min: 7}}},
		"08 01 00":                                        {},
		"08 05 ff ff ff ff 0f":                            {Start: api.MaxIndex},
	} {
		m, e, at := Read([]byte(first + raw(b)))
		if e != api.OK || at != 0 || !equal(m, want) {
			t.Errorf("%s: %+v %d %d", b, m, e, at)
		}
	}
	hold(t, []at{{"03 02 01 00", api.ErrCount, 4}, {"05 03 01 00 07 04 01 00", api.ErrOrder, 5}, {"05 04 01 00 07 00", api.ErrSize, 5}})
}

// What is told is new, and what is handed in stays.
func TestP81Apart(t *testing.T) {
	for _, s := range wholes() {
		b := []byte(s)
		m, e, _ := Read(b)
		n, _, _ := Read(b)
		if e != api.OK || string(b) != s {
			t.Fatalf("%x: %d", s, e)
		}
		apart(t, b, m, n)
		want := fmt.Sprintf("%+v", m)
		clear(b)
		if fmt.Sprintf("%+v", m) != want {
			t.Errorf("%x: kept", s)
		}
	}
	modules(func(_ api.Module, s string) {
		b := []byte(s)
		m, _, _ := Read(b)
		apart(t, b, m)
	})
}

// What there is much of is read in few steps.
func TestP81Much(t *testing.T) {
	const many = 60000
	for _, s := range []string{
		sec(3, num(many)+strings.Repeat("\x00", many)) + sec(10, num(many)+strings.Repeat("\x02\x00\x0b", many)),
		sec(1, num(many)+strings.Repeat("\x60\x00\x00", many)), sec(7, num(many)+strings.Repeat("\x01x\x00\x00", many)), sec(9, num(many)+strings.Repeat("\x01\x00\x01\x00", many)), sec(11, num(many)+strings.Repeat("\x01\x01x", many)),
		sec(3, "\x01\x00") + sec(10, "\x01"+num(2*many+2)+"\x00"+strings.Repeat("\x1a\x01", many)+"\x0b"), strings.Repeat("\x00\x02\x01z", many), sec(11, "\x01\x01"+num(many)+strings.Repeat("\xff", many)), sec(2, "\x01"+num(many)+strings.Repeat("n", many)+"\x00\x00\x00"),
		sec(3, "\x01\x00") + sec(10, "\x01"+num(3*(1<<16)+2)+"\x00"+strings.Repeat("\x02\x40", 1<<16)+strings.Repeat("\x0b", 1<<16+1)),
	} {
		m, e, at := Read([]byte(first + s))
		if e != api.OK || at != 0 {
			t.Fatalf("%x..: %d at %d", s[:20], e, at)
		}
		if b, e := Put(m); e != api.OK || s[0] != 0 && string(b) != first+s {
			t.Fatalf("%x..: %d", s[:20], e)
		}
	}
}
