package module

import (
	"fmt"
	"math"
	"testing"

	"geode/api"
)

func TestP82Put(t *testing.T) {
	modules(func(m api.Module, want string) {
		was := fmt.Sprintf("%+v", m)
		if b, e := Put(m); e != api.OK || string(b) != want {
			t.Fatalf("%s: %d %x, want %x", was, e, b, want)
		}
		if fmt.Sprintf("%+v", m) != was {
			t.Fatal("what is handed in is changed")
		}
	})
	if b, e := Put(api.Module{Start: -1}); e != api.OK || string(b) != first {
		t.Errorf("%x %d", b, e)
	}
	if b, e := Put(api.Module{}); e != api.OK || string(b) != first+"\x08\x01\x00" {
		t.Errorf("%x %d", b, e)
	}
}

// Of elements the bytes are those with the least first byte that may be.
func TestP82PutElems(t *testing.T) {
	one, other := []api.Instr{{Op: 0xd2, X: 3}}, []api.Instr{{Op: 0xd0, Heap: api.Heap{Kind: api.HFunc}}}
	for _, v := range []api.Val{funcs, fnNull, ref5, anyNull} {
		for _, inits := range [][][]api.Instr{nil, {one}, {one, one}, {one, other}, {other, one}, {nil}, {append(one, other...)}} {
			for mode := range api.SegMode(3) {
				for _, table := range []int{0, 1, 200} {
					if mode != api.SegActive && table > 0 {
						continue
					}
					e := api.Elem{Type: v, Inits: inits, Mode: mode, Table: table}
					want := map[api.SegMode]byte{api.SegPassive: 1, api.SegDeclared: 3, api.SegActive: 0}[mode]
					named := v == funcs
					for _, l := range inits {
						named = named && len(l) == 1 && l[0].Op == 0xd2
					}
					if !named {
						want += 4
					}
					if mode == api.SegActive && (table > 0 || !named && v != fnNull) {
						want += 2
					}
					m := api.Module{Start: -1, Elems: []api.Elem{e}}
					b, no := Put(m)
					if no != api.OK || len(b) < 12 || b[11] != want {
						t.Errorf("%+v: %x, want %d", e, b, want)
					}
					may(t, m)
				}
			}
		}
	}
}

// What may not be put as it is told shorter elsewhere: a name that is too long for layer 2, a group of nothing.
func TestP82PutLong(t *testing.T) {
	long := make([]byte, api.MaxName+1)
	for i := range long {
		long[i] = 'x'
	}
	b, e := Put(api.Module{Start: -1, Exports: []api.Export{{Name: string(long), Kind: api.ExTag, N: 1}}})
	if want := first + sec(7, "\x01"+num(len(long))+string(long)+"\x04\x01"); e != api.OK || string(b) != want {
		t.Errorf("%d, %d bytes", e, len(b))
	}
	b, e = Put(api.Module{Start: -1, Types: [][]api.Sub{nil, {}, {{Comp: api.Comp{Kind: api.CStruct}}}}})
	if want := first + sec(1, "\x03\x4e\x00\x4e\x00\x50\x00\x5f\x00"); e != api.OK || string(b) != want {
		t.Errorf("%d %x", e, b)
	}
}

// Section 12 stands there just if a code needs it, and tells how many data there are.
func TestP82PutCount(t *testing.T) {
	for op, needs := range map[api.Op]bool{0xfc08: true, 0xfc09: true, 0xfb09: true, 0xfb12: true, 0xfb0a: false, 0xfb13: false, 0xfc0a: false, 0xfc0b: false, 0xfc0c: false, 0xfc0d: false, 0x08: false, 0x09 + 0x11: false, 0xfb08: false, 0xfb11: false} {
		row := []api.Instr{{Op: op}}
		for many := range 300 {
			if many > 2 && many < 126 {
				continue
			}
			m := api.Module{Start: -1, Funcs: []api.Func{{}, {Body: row}, {}}, Datas: make([]api.Data, many)}
			b, e := Put(m)
			want := sec(3, "\x03\x00\x00\x00")
			if needs {
				want += sec(12, num(many))
			}
			if e != api.OK || len(b) < 8+len(want) || string(b[8:8+len(want)]) != want || b[8+len(want)] != 10 {
				t.Fatalf("%x, %d: %d %x", op, many, e, b)
			}
			may(t, m)
		}
		// Not a code, but rows elsewhere.
		m := api.Module{Start: -1, Globals: []api.Global{{Type: api.GlobalType{Val: i32}, Init: row}}, Tables: []api.Table{{Type: api.TableType{Elem: fnNull}, HasInit: true, Init: row}}, Elems: []api.Elem{{Type: fnNull, Inits: [][]api.Instr{row}, Mode: api.SegActive, Offset: row}}, Datas: []api.Data{{Mode: api.SegActive, Offset: row}}}
		b, e := Put(m)
		if e != api.OK {
			t.Fatal(e)
		}
		for _, s := range parts(string(b)) {
			if s[0] == 12 {
				t.Errorf("%x: %x", op, b)
			}
		}
		may(t, m)
	}
}

// What is read of longer bytes is put with the shortest ones.
func TestP83Shorter(t *testing.T) {
	for b, want := range map[string]string{
		"": "", "0001 00": "", "0004 01 61 ff ff": "", "0101 00 0201 00 0301 00 0401 00 0501 00 0d01 00 0601 00 0701 00 0901 00 0c01 00 0a01 00 0b01 00": "",
		"0583 00 01 00 07": "0503 01 00 07", "0505 8100 00 8700": "0503 01 00 07",
		"0106 01 4e 01 60 00 00": "0104 01 60 00 00", "0107 01 4f 00 5f 01 78 01": "0105 01 5f 01 78 01", "0103 01 4e 00": "0103 01 4e 00", "0404 01 70 00 00": "0404 01 70 00 00", "0405 01 63 70 00 00": "0404 01 70 00 00",
		"0605 01 63 6e 00 0b": "0604 01 6e 00 0b", "0803 80 80 00": "0801 00", "0d04 01 00 85 00": "0d03 01 00 05", "0706 01 81 00 61 00 00": "0705 01 01 61 00 00",
		"0907 01 02 00 0b 00 01 05": "0905 01 00 0b 01 05", "0907 01 06 00 0b 70 01 0b": "0905 01 04 0b 01 0b", "090a 01 06 00 0b 64 70 01 d2 05 0b": "0905 01 00 0b 01 05", "0908 01 05 64 70 01 d2 05 0b": "0905 01 01 00 01 05", "0908 01 07 64 70 01 d2 05 0b": "0905 01 03 00 01 05", "0905 01 05 63 70 00": "0904 01 05 70 00", "0906 01 04 0b 81 00 0b": "0905 01 04 0b 01 0b", "0905 01 05 64 70 00": "0904 01 01 00 00",
		"0b05 01 02 00 0b 00": "0b04 01 00 0b 00", "0b07 01 02 80 00 0b 80 00": "0b04 01 00 0b 00", "0b05 01 01 81 00 61": "0b04 01 01 01 61", "0c01 01 0b03 01 01 00": "0b03 01 01 00",
		"0302 01 00 0a06 01 83 00 80 00 0b": "0302 01 00 0a04 01 02 00 0b", "0302 01 00 0c02 80 00 0a06 01 04 00 41 00 0b": "0302 01 00 0a06 01 04 00 41 00 0b", "0302 01 00 0c02 80 00 0a07 01 05 00 fc 09 00 0b": "0302 01 00 0c01 00 0a07 01 05 00 fc 09 00 0b",
	} {
		s := first + raw(b)
		held(t, []byte(s))
		m, e, _ := Read([]byte(s))
		put, no := Put(m)
		if e != api.OK || no != api.OK || string(put) != first+raw(want) {
			t.Errorf("%s: %d %x, want %s", b, e, put, want)
		}
	}
}

// What is put is read as it was; nothing that is left out is told.
func TestP83Again(t *testing.T) {
	modules(func(m api.Module, b string) {
		put, e := Put(m)
		again, no, at := Read(put)
		if e != api.OK || no != api.OK || at != 0 || !Same(again, m) {
			t.Fatalf("%x: %d %d", b, e, no)
		}
		if twice, e := Put(again); e != api.OK || string(twice) != string(put) {
			t.Fatalf("%x: %x", put, twice)
		}
		// A section that says nothing may stand ahead of all, and behind.
		around, no, _ := Read([]byte(first + "\x00\x03\x02zz" + b[8:] + "\x00\x01\x00"))
		if no != api.OK || !Same(around, m) {
			t.Fatalf("%x, around: %d", b, no)
		}
	})
	for n := range 70 {
		u := uint64(1)<<max(n-1, 0) - uint64(n%2)
		if n > 64 {
			u = math.MaxUint64 >> (n - 64)
		}
		may(t, api.Module{Start: int(u % (1 << 32)), Mems: []api.Limits{{Min: u}, {Wide: true, Min: u, HasMax: true, Max: u + 1}}, Tags: []int{int(u % (1 << 32))}})
	}
}
