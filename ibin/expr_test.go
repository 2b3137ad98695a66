package ibin

import (
	"fmt"
	"slices"
	"strings"
	"testing"

	"geode/api"
	"geode/ops"
	"geode/tbin"
)

// met is an error, and its place.
type met struct {
	e  api.Errno
	at int
}

// look reads bytes as the chapter tells it, block in block; what it can't read it leaves by a panic with what it met.
type look struct {
	b  []byte
	at int
}

func (l *look) fail(e api.Errno, at int) { panic(met{e, at}) }

// ask reads an item by layer 6.
func ask[T any](l *look, item func(*tbin.Reader) T) T {
	r := tbin.Open(l.b[l.at:])
	x := item(r)
	if e, at := r.Err(); e != api.OK {
		l.fail(e, l.at+at)
	}
	l.at += r.At()
	return x
}

func (l *look) u(bits int) uint64 {
	return ask(l, func(r *tbin.Reader) uint64 { return r.U(bits) })
}

func (l *look) s(bits int) int64 {
	return ask(l, func(r *tbin.Reader) int64 { return r.S(bits) })
}

func (l *look) index() int { return int(l.u(32)) }

// among takes a byte that is one of so many from 0 on.
func (l *look) among(n int) int {
	at := l.at
	b := int(ask(l, (*tbin.Reader).Byte))
	if b >= n {
		l.fail(api.ErrForm, at)
	}
	return b
}

func (l *look) op() api.Op {
	at := l.at
	op := api.Op(ask(l, (*tbin.Reader).Byte))
	if op == 0xfb || op == 0xfc {
		n := l.index()
		if n > 255 {
			l.fail(api.ErrForm, at)
		}
		op = op*256 + api.Op(n)
	}
	if ops.Known(op) {
		l.fail(api.ErrKnown, at)
	}
	if ops.Name(op) == "" {
		l.fail(api.ErrForm, at)
	}
	return op
}

func (l *look) block() api.Block {
	if l.at < len(l.b) {
		switch b := l.b[l.at]; {
		case b == 0x40:
			l.at++
			return api.Block{}
		case 0x7b <= b && b <= 0x7f || b == 0x63 || b == 0x64 || 0x69 <= b && b <= 0x74:
			return api.Block{Kind: 1, Val: ask(l, (*tbin.Reader).Val)}
		}
	}
	at := l.at
	n := l.s(33)
	if n < 0 {
		l.fail(api.ErrForm, at)
	}
	return api.Block{Kind: 2, N: int(n)}
}

func (l *look) catches() (out []api.Catch) {
	for range ask(l, (*tbin.Reader).Count) {
		c := api.Catch{Kind: l.among(4)}
		if c.Kind < 2 {
			c.Tag = l.index()
		}
		c.Label = l.index()
		out = append(out, c)
	}
	return out
}

func (l *look) labels() (out []int) {
	for range ask(l, (*tbin.Reader).Count) {
		out = append(out, l.index())
	}
	return out
}

func (l *look) mem(i *api.Instr) {
	at := l.at
	i.X = l.index()
	if i.X >= 128 {
		l.fail(api.ErrForm, at)
	}
	if i.X >= 64 {
		i.X -= 64
		i.Y = l.index()
	}
	i.U = l.u(64)
}

func (l *look) instr() api.Instr {
	i := api.Instr{Op: l.op()}
	shape := ops.Shape(i.Op)
	if shape == api.ShMem {
		l.mem(&i)
		return i
	}
	if shape == api.ShCast {
		b := l.among(4)
		i.Null, i.Null2 = b%2 == 1, b/2 == 1
	}
	for field := range strings.FieldsSeq(strings.NewReplacer("Null2", "", "Null", "").Replace(asked[shape])) {
		switch field {
		case "X":
			i.X = l.index()
		case "Y":
			i.Y = l.index()
		case "U":
			i.U = uint64(l.s(map[api.Shape]int{api.ShI32: 32, api.ShI64: 64}[shape]))
			if shape == api.ShI32 {
				i.U %= 1 << 32
			}
		case "Heap":
			i.Heap = ask(l, (*tbin.Reader).Heap)
		case "Heap2":
			i.Heap2 = ask(l, (*tbin.Reader).Heap)
		case "Types":
			i.Types = ask(l, (*tbin.Reader).Vals)
		case "Labels":
			i.Labels = l.labels()
		case "Block":
			i.Block = l.block()
		case "Catches":
			i.Catches = l.catches()
		}
	}
	return i
}

// row reads up to an end, which is its last; elses says how many may stand straight in it.
func (l *look) row(elses int) (out []api.Instr) {
	for {
		at := l.at
		i := l.instr()
		out = append(out, i)
		switch ops.Name(i.Op) {
		case "end":
			return out
		case "else":
			if elses == 0 {
				l.fail(api.ErrForm, at)
			}
			elses--
		case "if":
			out = append(out, l.row(1)...)
		case "block", "loop", "try_table":
			out = append(out, l.row(0)...)
		}
	}
}

// looked is the expression of some bytes, and the place behind it, or what was met.
func looked(b []byte) (row []api.Instr, at int, end met) {
	l := &look{b: b}
	defer func() {
		if x, ok := recover().(met); ok {
			row, at, end = nil, 0, x
		}
	}()
	row = l.row(0)
	return row[:len(row)-1], l.at, met{}
}

func text(l []api.Instr) string { return fmt.Sprintf("%+v", l) }

func errOf(r *tbin.Reader) met {
	e, at := r.Err()
	return met{e, at}
}

// held holds what is read of some bytes against the chapter, and what follows of it.
func held(t *testing.T, b []byte) {
	t.Helper()
	r := tbin.Open(b)
	l := Expr(r)
	want, at, end := looked(b)
	if errOf(r) != end || text(l) != text(want) {
		t.Fatalf("%x: %s %v, want %s %v", b, text(l), errOf(r), text(want), end)
	}
	if end.e != api.OK {
		if len(Expr(r)) != 0 || errOf(r) != end {
			t.Fatalf("%x: read on behind an error", b)
		}
		return
	}
	if r.At() != at || r.Left() != len(b)-at {
		t.Fatalf("%x: at %d, want %d", b, r.At(), at)
	}
	if slices.ContainsFunc(l, func(i api.Instr) bool { return !May(i) }) || !Nested(l) {
		t.Fatalf("%x: what is read may not be: %s", b, text(l))
	}
	put := Put(l)
	if len(put) == 0 || len(put) > at {
		t.Fatalf("%x: %x", b, put)
	}
	again := tbin.Open(put)
	if !Same(Expr(again), l) || again.Left() != 0 {
		t.Fatalf("%x: %x", b, put)
	}
}

// allOf tells all rows of so many bytes out of these, behind others.
func allOf(head, of string, long int, tell func([]byte)) {
	b := append([]byte(head), make([]byte, long)...)
	var fill func(at int)
	fill = func(at int) {
		if at == len(b) {
			tell(b)
			return
		}
		for i := range len(of) {
			b[at] = of[i]
			fill(at + 1)
		}
	}
	fill(len(head))
}

func every() string {
	b := make([]byte, 256)
	for i := range b {
		b[i] = byte(i)
	}
	return string(b)
}

func TestP72Short(t *testing.T) {
	check := func(b []byte) { held(t, b) }
	for long := range 3 {
		allOf("", every(), long, check)
	}
	// An opcode each, and what begins some thing and ends it.
	for _, op := range every() {
		allOf(opBytes(api.Op(op)), "\x00\x01\x0b\x40\x6e\x80", 3, check)
	}
	for n := range 0x20 {
		allOf("\xfb"+string(rune(n)), "\x00\x03\x0b\x6e\x80", 4, check)
		allOf("\xfc"+string(rune(n)), "\x00\x01\x0b\x80", 3, check)
	}
	allOf("", "\x01\x02\x04\x05\x0b\x40", 6, check)
	allOf("\x04\x40\x04\x40", "\x04\x05\x0b\x40", 6, check)
	allOf("", "\x02\x04\x0b\x40\x63\x64\x7d\x7f\x80\xff", 4, check)
	allOf("\x1f", "\x00\x01\x02\x03\x04\x0b\x40\x7f", 5, check)
	allOf("\x28", "\x00\x0b\x3f\x40\x7f\x80\x01", 5, check)
	allOf("\xfb\x18", "\x00\x01\x03\x04\x0b\x6e\xff", 5, check)
	allOf("\x0e", "\x00\x01\x02\x0b\x80", 5, check)
	allOf("\x1c", "\x00\x01\x02\x0b\x63\x6e\x7c\x7f", 4, check)
}

// A number behind a prefix, written short and long.
func TestP72Prefix(t *testing.T) {
	for _, prefix := range []byte{0xfb, 0xfc, 0xfd, 0xfe} {
		for n := range 0x10100 {
			if n >= 0x240 && n&0xff > 0x20 {
				continue
			}
			b := []byte{0x01, prefix, byte(n)&0x7f | 0x80, byte(n>>7)&0x7f | 0x80, byte(n >> 14)}
			held(t, b)
			held(t, append(b, "\x00\x00\x0b"...))
			if n < 128 {
				held(t, []byte{prefix, byte(n), 0, 0, 0, 0x0b})
			}
		}
	}
	for _, s := range []string{"\xfb\x80\x80\x80\x80\x00\x00\x0b", "\xfc\x88\x80\x80\x80\x00\x01\x02\x0b", "\xfb\x80\x80\x80\x80\x10\x0b", "\xfc\xff\xff\xff\xff\x0f\x0b", "\xfb\x80\x80\x80\x80\x80\x00\x0b", "\xfc\x88\x80\x80\x80\x01\x0b"} {
		held(t, []byte(s))
	}
}

// longs are expressions in which all stands that may, written short and long.
func longs() []string {
	return []string{
		"\x02\x40\x03\x7f\x04\x05\x1f\x6e\x00\x0b\x05\x01\x0b\x00\x0b\x0b\x0b",
		"\x1f\x03\x04\x00\x04\x01\x01\x80\x01\x00\x02\x07\x03\xff\xff\xff\xff\x0f\x0a\x0b\x0b",
		"\xfb\x18\x03\x01\x6e\x07\xfb\x99\x00\x02\x80\x01\x69\xc0\x00\x0e\x02\x00\x01\x02\x0e\x80\x00\x05\x0b",
		"\x28\x42\x01\x10\x29\x03\x80\x80\x80\x80\x10\x37\x3f\xff\xff\xff\xff\xff\xff\xff\xff\xff\x01\x3a\xff\x00\xff\xff\xff\xff\x0f\x80\x00\x35\xc2\x00\x80\x00\x00\x0b",
		"\x41\x7f\x41\x80\x80\x80\x80\x78\x41\xff\x00\x42\x80\x80\x80\x80\x80\x80\x80\x80\x80\x7f\x42\xff\xff\xff\xff\x0f\x1a\x0b",
		"\xd0\x6e\xd0\x85\x00\xfb\x14\x74\xfb\x17\x80\x80\x80\x80\x00\x1c\x03\x7f\x63\x05\x64\x6b\x1c\x00\x1b\x0b",
		"\x02\x64\x05\x0b\x02\x63\x6e\x0b\x02\x63\xc0\x00\x0b\x03\x80\x80\x80\x80\x00\x0b\x04\xff\xff\xff\xff\x0f\x05\x0b\x04\x80\x00\x0b\x0b",
		"\x10\x80\x80\x00\x11\x01\x80\x01\xfc\x08\x00\x01\xfc\x8b\x00\x00\xfb\x02\x05\xff\x7f\xfb\x0f\x20\xff\x01\xd5\x00\xd2\x03\x6a\xa7\xc4\x0b",
	}
}

func TestP72Long(t *testing.T) {
	for _, s := range longs() {
		if e := errOfExpr(s); e.e != api.OK {
			t.Fatalf("%x: %v", s, e)
		}
		for cut := range len(s) + 1 {
			held(t, []byte(s[:cut]))
		}
		for _, behind := range []string{"\x00", "\x0b", "\x05", "\x80", "\xff\xff"} {
			held(t, []byte(s+behind))
		}
		for at := range len(s) {
			b := []byte(s)
			for x := range 256 {
				b[at] = byte(x)
				held(t, b)
			}
			held(t, slices.Delete([]byte(s), at, at+1))
			held(t, slices.Insert([]byte(s), at, s[at]))
		}
	}
}

func errOfExpr(s string) met {
	r := tbin.Open([]byte(s))
	Expr(r)
	return errOf(r)
}

// The errors that the chapter names, with their places.
func TestP72Errors(t *testing.T) {
	for _, c := range []struct {
		b  string
		e  api.Errno
		at int
	}{
		{"", api.ErrEnd, 0}, {"\x01", api.ErrEnd, 1}, {"\x02\x40\x0b", api.ErrEnd, 3}, {"\x20", api.ErrEnd, 1}, {"\x20\x80", api.ErrEnd, 1}, {"\x11\x00", api.ErrEnd, 2}, {"\xfb", api.ErrEnd, 1}, {"\xfc\x80", api.ErrEnd, 1},
		{"\x43\x00", api.ErrKnown, 0}, {"\x01\x2a", api.ErrKnown, 1}, {"\xfd", api.ErrKnown, 0}, {"\xfd\x80", api.ErrKnown, 0}, {"\xfd\xff\xff\xff\xff\xff", api.ErrKnown, 0}, {"\x01\xfc\x07", api.ErrKnown, 1}, {"\xfc\x80\x00", api.ErrKnown, 0}, {"\xbf", api.ErrKnown, 0},
		{"\x06", api.ErrForm, 0}, {"\x01\xff", api.ErrForm, 1}, {"\xfb\x1f", api.ErrForm, 0}, {"\x01\xfb\x9f\x00", api.ErrForm, 1}, {"\xfc\x12", api.ErrForm, 0}, {"\xfb\x80\x02\x00\x0b", api.ErrForm, 0}, {"\xfb\x88\x02\x00\x00\x0b", api.ErrForm, 0}, {"\xfb\x80\x04\x0b", api.ErrForm, 0}, {"\xfc\xff\xff\xff\xff\x0f", api.ErrForm, 0}, {"\xfe\x00", api.ErrForm, 0},
		{"\xfb\x80\x80\x80\x80\x10", api.ErrWide, 1}, {"\x20\xff\xff\xff\xff\x1f", api.ErrWide, 1}, {"\x41\xff\xff\xff\xff\x0f", api.ErrWide, 1}, {"\x42\xff\xff\xff\xff\xff\xff\xff\xff\xff\x01", api.ErrWide, 1},
		{"\x05\x0b", api.ErrForm, 0}, {"\x01\x05", api.ErrForm, 1}, {"\x02\x40\x05\x0b", api.ErrForm, 2}, {"\x03\x40\x05\x0b", api.ErrForm, 2}, {"\x1f\x40\x00\x05\x0b", api.ErrForm, 3}, {"\x04\x40\x05\x05\x0b\x0b", api.ErrForm, 3}, {"\x04\x40\x02\x40\x05\x0b\x0b\x0b", api.ErrForm, 4}, {"\x04\x40\x0b\x05", api.ErrForm, 3}, {"\x04\x40\x05\x04\x40\x0b\x05\x0b\x0b", api.ErrForm, 6},
		{"\x28\x80\x01\x00\x0b", api.ErrForm, 1}, {"\x28\xff\xff\xff\xff\x0f\x00\x0b", api.ErrForm, 1}, {"\x28\x80\x80\x80\x80\x10", api.ErrWide, 1}, {"\x28\x40", api.ErrEnd, 2}, {"\x28\x00", api.ErrEnd, 2}, {"\x28\x40\xff\xff\xff\xff\x1f", api.ErrWide, 2}, {"\x28\x00\xff\xff\xff\xff\xff\xff\xff\xff\xff\x02", api.ErrWide, 2},
		{"\xfb\x18\x04\x00\x6e\x6e\x0b", api.ErrForm, 2}, {"\xfb\x19\xff", api.ErrForm, 2}, {"\xfb\x18", api.ErrEnd, 2}, {"\xfb\x18\x00\x00\x6e", api.ErrEnd, 5}, {"\xfb\x18\x00\x00\x6e\x7f", api.ErrForm, 5}, {"\xfb\x18\x00\x00\x75\x7f", api.ErrForm, 4},
		{"\x02", api.ErrEnd, 1}, {"\x02\x80", api.ErrEnd, 1}, {"\x02\x41", api.ErrForm, 1}, {"\x02\x62\x0b", api.ErrForm, 1}, {"\x02\x65\x0b", api.ErrForm, 1}, {"\x02\x68\x0b", api.ErrForm, 1}, {"\x02\x75\x0b", api.ErrForm, 1}, {"\x02\x7a\x0b", api.ErrForm, 1}, {"\x02\x60\x0b", api.ErrForm, 1}, {"\x02\x78\x0b", api.ErrForm, 1},
		{"\x02\xc0\x7f\x0b", api.ErrForm, 1}, {"\x02\xff\x7f\x0b", api.ErrForm, 1}, {"\x02\xfd\x7f\x0b", api.ErrForm, 1}, {"\x02\xe4\x7f\x6e\x0b", api.ErrForm, 1}, {"\x02\x80\x80\x80\x80\x70\x0b", api.ErrForm, 1}, {"\x02\x80\x80\x80\x80\x10\x0b", api.ErrWide, 1},
		{"\x02\x7d\x0b", api.ErrKnown, 1}, {"\x03\x7c\x0b", api.ErrKnown, 1}, {"\x04\x7b\x0b", api.ErrKnown, 1}, {"\x1f\x7d\x00\x0b", api.ErrKnown, 1}, {"\x02\x64", api.ErrEnd, 2}, {"\x02\x64\x7f", api.ErrForm, 2}, {"\x02\x63\x80", api.ErrEnd, 2}, {"\x02\x64\x7d", api.ErrForm, 2}, {"\x02\x64\xff\xff\xff\xff\x1f\x0b", api.ErrWide, 2},
		{"\x1f\x40\x01\x04\x00\x0b", api.ErrForm, 3}, {"\x1f\x40\x02\x02\x00\xff\x00\x0b", api.ErrForm, 5}, {"\x1f\x40\x05\x00\x00", api.ErrEnd, 2}, {"\x1f\x40\x01\x00", api.ErrEnd, 4}, {"\x1f\x40", api.ErrEnd, 2}, {"\x1f\x41\x05", api.ErrForm, 1},
		{"\x0e\x05\x00\x0b", api.ErrEnd, 1}, {"\x0e\x01\x00", api.ErrEnd, 3}, {"\x0e\x01\xff\xff\xff\xff\x1f\x00", api.ErrWide, 2}, {"\x1c\x01\x7d\x0b", api.ErrKnown, 2}, {"\x1c\x01\x40\x0b", api.ErrForm, 2}, {"\x1c\x04\x7f", api.ErrEnd, 1}, {"\xd0\x7f\x0b", api.ErrForm, 1}, {"\xd0\x40\x0b", api.ErrForm, 1},
	} {
		r := tbin.Open([]byte(c.b))
		if l := Expr(r); len(l) != 0 || errOf(r) != (met{c.e, c.at}) {
			t.Errorf("%x: %v %s", c.b, errOf(r), text(l))
		}
		// The same behind others; its place is counted from the bytes' beginning on.
		r = tbin.Open([]byte("\x01\x02\x03" + c.b))
		r.Take(3)
		if l := Expr(r); len(l) != 0 || errOf(r) != (met{c.e, c.at + 3}) {
			t.Errorf("%x, behind: %v %s", c.b, errOf(r), text(l))
		}
	}
}

func TestP72Examples(t *testing.T) {
	for b, want := range map[string][]api.Instr{
		"\x41\x7f\x1a\x0b":                     {{Op: 0x41, U: 1<<32 - 1}, {Op: 0x1a}},
		"\x02\x40\x0c\x00\x0b\x0b":             {{Op: 0x02}, {Op: 0x0c}, {Op: 0x0b}},
		"\x28\x42\x01\x10\x0b":                 {{Op: 0x28, X: 2, Y: 1, U: 16}},
		"\x04\x7f\x41\x01\x05\x41\x02\x0b\x0b": {{Op: 0x04, Block: api.Block{Kind: 1, Val: i32}}, {Op: 0x41, U: 1}, {Op: 0x05}, {Op: 0x41, U: 2}, {Op: 0x0b}},
		"\x0b":                                 nil,
	} {
		r := tbin.Open([]byte(b))
		if l := Expr(r); text(l) != text(want) || errOf(r).e != api.OK || r.Left() != 0 {
			t.Errorf("%x: %s", b, text(l))
		}
		if string(Put(want)) != b {
			t.Errorf("%x: %x", b, Put(want))
		}
	}
}

// Expressions one behind the other, and whatever else stands around.
func TestP72Behind(t *testing.T) {
	var all strings.Builder
	for _, s := range longs() {
		all.WriteString("\x7f" + s)
	}
	r := tbin.Open([]byte(all.String() + "\x05"))
	for _, s := range longs() {
		if r.Byte() != 0x7f {
			t.Fatal(r.At())
		}
		want, _, _ := looked([]byte(s))
		if l := Expr(r); text(l) != text(want) || errOf(r).e != api.OK {
			t.Fatalf("%x: %s %v", s, text(l), errOf(r))
		}
	}
	if r.Left() != 1 {
		t.Error(r.Left())
	}
}

func TestP72NoReader(t *testing.T) {
	for i, r := range []*tbin.Reader{nil, {}, new(tbin.Reader)} {
		if l := Expr(r); len(l) != 0 || errOf(r) != (met{api.ErrNil, 0}) {
			t.Errorf("%d: %s %v", i, text(l), errOf(r))
		}
	}
	r := tbin.Open([]byte("\x01\x0b"))
	r.Fail(api.ErrSize, 7)
	if l := Expr(r); len(l) != 0 || errOf(r) != (met{api.ErrSize, 7}) || r.At() != 0 {
		t.Errorf("%s %v", text(l), errOf(r))
	}
}

// What is told is new, and no two lists of it are one.
func TestP72Apart(t *testing.T) {
	s := "\x0e\x02\x00\x01\x02\x0e\x02\x00\x01\x02\x1c\x01\x7f\x1c\x01\x7f\x1f\x40\x01\x02\x00\x0b\x1f\x40\x01\x02\x00\x0b\x0b"
	b := []byte(s)
	l, other := Expr(tbin.Open(b)), Expr(tbin.Open(b))
	want := text(l)
	for i := range l {
		now := text(slices.Concat(l[:i], l[i+1:]))
		for k := range l[i].Labels {
			l[i].Labels[k]++
		}
		clear(l[i].Types)
		clear(l[i].Catches)
		_, _, _ = append(l[i].Labels, 9), append(l[i].Types, i64), append(l[i].Catches, api.Catch{Kind: 1})
		if text(slices.Concat(l[:i], l[i+1:])) != now {
			t.Errorf("%d is shared", i)
		}
	}
	if text(other) != want || string(b) != s {
		t.Error("shared")
	}
}
