package ibin

import (
	"slices"
	"strings"
	"testing"

	"geode/api"
	"geode/tbin"
)

// behinds are what may stand behind an expression.
var behinds = []string{"", "\x00", "\x0b", "\x05", "\x40", "\x80", "\xff\xff\xff\xff\xff\xff"}

func TestP73Samples(t *testing.T) {
	for _, s := range samples() {
		l, want := nested(s)
		if got := string(Put(l)); got != want {
			t.Fatalf("%+v: %x, want %x", s.i, got, want)
		}
	}
	for _, l := range [][]api.Instr{nil, {}} {
		if string(Put(l)) != "\x0b" {
			t.Errorf("an empty row: %x", Put(l))
		}
	}
}

// mixed are rows of many samples, one behind the other and in one another, and their bytes.
func mixed(tell func(l []api.Instr, b string)) {
	all := samples()
	opens := []sample{}
	for _, s := range all {
		if l, _ := nested(s); len(l) == 2 && s.i.Op != 0x0b {
			opens = append(opens, s)
		}
	}
	for step := range 200 {
		var l []api.Instr
		var b strings.Builder
		open := 0
		for k := range 60 {
			// Steps that have no part in common with how many samples there are, so that each row is another.
			s := all[(step*7919+k*k*104729+k)%len(all)]
			if k%5 == 0 {
				s = opens[(step*31+k)%len(opens)]
			}
			row, bytes := nested(s)
			switch {
			case len(row) == 2 && s.i.Op != 0x0b:
				l = append(l, s.i)
				b.WriteString(s.b)
				open++
			default:
				l = append(l, row...)
				b.WriteString(bytes[:len(bytes)-1])
			}
			if k%7 == 3 && open > 0 {
				l = append(l, api.Instr{Op: 0x0b})
				b.WriteString("\x0b")
				open--
			}
		}
		l = append(l, slices.Repeat([]api.Instr{{Op: 0x0b}}, open)...)
		tell(l, b.String()+strings.Repeat("\x0b", open+1))
	}
}

func TestP73Rows(t *testing.T) {
	mixed(func(l []api.Instr, want string) {
		was := text(l)
		if got := string(Put(l)); got != want {
			t.Fatalf("%s: %x, want %x", was, got, want)
		}
		if text(l) != was {
			t.Fatal("what is handed in is changed")
		}
		for _, odd := range []api.Instr{{Op: 0x06}, {Op: 0x01, X: 1}, {Op: 0x41, U: 1 << 32}, {Op: 0x05}, {Op: 0x02}, {Op: 0x0b}} {
			for _, at := range []int{0, len(l)} {
				if b := Put(slices.Insert(slices.Clone(l), at, odd)); len(b) != 0 {
					t.Fatalf("%+v at %d: %x", odd, at, b)
				}
			}
		}
	})
}

func TestP73Apart(t *testing.T) {
	l := []api.Instr{{Op: 0x1c, Types: []api.Val{i32}}, {Op: 0x0e, Labels: []int{1}}}
	a, b := Put(l), Put(l)
	clear(a[:cap(a)])
	if string(b) != "\x1c\x01\x7f\x0e\x01\x01\x00\x0b" || string(Put(l)) != string(b) {
		t.Errorf("%x", b)
	}
}

// again reads what is put, and holds that it is as it was, whatever stands behind.
func again(t *testing.T, l []api.Instr) {
	t.Helper()
	b := Put(l)
	for _, behind := range behinds {
		r := tbin.Open(append(slices.Clone(b), behind...))
		if got := Expr(r); !Same(got, l) || text(got) != text(l) || errOf(r).e != api.OK || r.Left() != len(behind) {
			t.Fatalf("%x behind %x: %s %v", behind, b, text(got), errOf(r))
		}
	}
}

func TestP74Put(t *testing.T) {
	for _, s := range samples() {
		l, _ := nested(s)
		again(t, l)
	}
	mixed(func(l []api.Instr, _ string) { again(t, l) })
}

// What is read of longer bytes is put with the shortest ones.
func TestP74Shorter(t *testing.T) {
	for b, want := range map[string]string{
		"\x41\x80\x00\x0b": "\x41\x00\x0b", "\x41\xff\x7f\x0b": "\x41\x7f\x0b", "\x20\x80\x80\x00\x0b": "\x20\x00\x0b", "\xfb\x8f\x00\x0b": "\xfb\x0f\x0b",
		"\x28\xc2\x00\x80\x00\x10\x0b": "\x28\x02\x10\x0b", "\x28\x40\x00\x00\x0b": "\x28\x00\x00\x0b", "\x02\x83\x00\x0b\x0b": "\x02\x03\x0b\x0b", "\x02\x63\x6e\x0b\x0b": "\x02\x6e\x0b\x0b",
		"\x0e\x80\x00\x05\x0b": "\x0e\x00\x05\x0b", "\x1f\x40\x81\x00\x02\x80\x00\x0b\x0b": "\x1f\x40\x01\x02\x00\x0b\x0b", "\x1c\x81\x00\x63\x69\x0b": "\x1c\x01\x69\x0b", "\xd0\x85\x00\x0b": "\xd0\x05\x0b",
	} {
		if got := string(Put(Expr(tbin.Open([]byte(b))))); got != want {
			t.Errorf("%x: %x, want %x", b, got, want)
		}
		held(t, []byte(b))
	}
}

// As many levels as there may be.
func TestP74Deep(t *testing.T) {
	const deep = 1 << 16
	for op, block := range map[string]string{"\x02": "\x40", "\x04": "\x40", "\x1f": "\x40\x00"} {
		b := strings.Repeat(op+block, deep) + strings.Repeat("\x0b", deep+1)
		r := tbin.Open([]byte(b))
		l := Expr(r)
		if len(l) != 2*deep || !Nested(l) || r.Left() != 0 || string(Put(l)) != b {
			t.Fatalf("%x: %d", op, len(l))
		}
		if Nested(l[1:]) || Nested(l[:len(l)-1]) || errOfExpr(b[:len(b)-1]) != (met{api.ErrEnd, len(b) - 1}) {
			t.Errorf("%x: one too few", op)
		}
	}
}
