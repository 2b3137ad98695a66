package tbin

import (
	"bytes"
	"encoding/hex"
	"math"
	"reflect"
	"slices"
	"strings"
	"testing"

	"geode/api"
	"geode/kind"
)

var (
	i32 = api.Val{Kind: api.VI32}
	i64 = api.Val{Kind: api.VI64}
)

// plainHeaps are heap types by their bytes: those of the chapter's row, and indexes.
func plainHeaps() map[string]api.Heap {
	out := map[string]api.Heap{
		"00": {Kind: api.HIndex}, "05": {Kind: api.HIndex, N: 5}, "3f": {Kind: api.HIndex, N: 63}, "c000": {Kind: api.HIndex, N: 64}, "ff00": {Kind: api.HIndex, N: 127},
		"8001": {Kind: api.HIndex, N: 128}, "ff3f": {Kind: api.HIndex, N: 8191}, "80c000": {Kind: api.HIndex, N: 8192}, "ffffffff07": {Kind: api.HIndex, N: 1<<31 - 1},
		"8080808008": {Kind: api.HIndex, N: 1 << 31}, "ffffffff0f": {Kind: api.HIndex, N: api.MaxIndex},
	}
	kinds := []string{"any", "eq", "i31", "struct", "array", "none", "func", "nofunc", "extern", "noextern", "exn", "noexn"}
	for b, n := range names {
		for k, s := range kinds {
			if n == s {
				out[hex.EncodeToString([]byte{b})] = api.Heap{Kind: api.HeapKind(k + 1)}
			}
		}
	}
	return out
}

// plainVals are value types by their shortest bytes.
func plainVals() map[string]api.Val {
	out := map[string]api.Val{"7f": i32, "7e": i64}
	for b, h := range plainHeaps() {
		out["64"+b] = api.Val{Kind: api.VRef, Heap: h}
		if h.Kind == api.HIndex {
			b = "63" + b
		}
		out[b] = api.Val{Kind: api.VRef, Null: true, Heap: h}
	}
	return out
}

func oddHeaps() []api.Heap {
	l := []api.Heap{{}, {N: 5}, {Kind: -1}, {Kind: api.HRec}, {Kind: api.HDef, N: 1}, {Kind: api.HDef + 1}, {Kind: math.MinInt}, {Kind: math.MaxInt}}
	for k := api.HAny; k <= api.HNoExn; k++ {
		l = append(l, api.Heap{Kind: k, N: 1}, api.Heap{Kind: k, N: -1})
	}
	for _, n := range []int{math.MinInt, -1, 1 << 32, math.MaxInt} {
		l = append(l, api.Heap{Kind: api.HIndex, N: n})
	}
	return l
}

func oddVals() []api.Val {
	l := []api.Val{{}, {Kind: api.VBot}, {Kind: -1}, {Kind: 5}, {Kind: api.VI32, Null: true}, {Kind: api.VI64, Heap: api.Heap{Kind: api.HAny}}, {Kind: api.VI32, Heap: api.Heap{N: 1}}}
	for _, h := range oddHeaps() {
		l = append(l, api.Val{Kind: api.VRef, Heap: h}, api.Val{Kind: api.VRef, Null: true, Heap: h})
	}
	return l
}

func hexed(b []byte) string { return hex.EncodeToString(b) }

func TestP64Heaps(t *testing.T) {
	if n := len(plainHeaps()); n != 23 {
		t.Fatal(n)
	}
	for want, h := range plainHeaps() {
		if got := hexed(PutHeap(h)); got != want {
			t.Errorf("%+v: %s, want %s", h, got, want)
		}
	}
	for _, h := range oddHeaps() {
		if b := PutHeap(h); len(b) != 0 {
			t.Errorf("%+v: %x", h, b)
		}
	}
}

func TestP64Vals(t *testing.T) {
	for want, v := range plainVals() {
		if got := hexed(PutVal(v)); got != want {
			t.Errorf("%+v: %s, want %s", v, got, want)
		}
	}
	for _, v := range oddVals() {
		if b := PutVal(v); len(b) != 0 {
			t.Errorf("%+v: %x", v, b)
		}
	}
}

func TestP64Lists(t *testing.T) {
	for _, l := range [][]api.Val{nil, {}} {
		if got := hexed(PutVals(l)); got != "00" {
			t.Errorf("an empty list: %s", got)
		}
	}
	for b, v := range plainVals() {
		for want, l := range map[string][]api.Val{"01" + b: {v}, "02" + b + "7f": {v, i32}, "037e" + b + b: {i64, v, v}} {
			if got := hexed(PutVals(l)); got != want {
				t.Errorf("%+v: %s, want %s", l, got, want)
			}
		}
	}
	for _, v := range oddVals() {
		for _, l := range [][]api.Val{{v}, {v, i32}, {i32, v}, {i32, v, i64}} {
			if b := PutVals(l); len(b) != 0 {
				t.Errorf("%+v: %x", l, b)
			}
		}
	}
	for n, head := range map[int]string{63: "3f", 64: "40", 127: "7f", 128: "8001", 300: "ac02"} {
		if got := hexed(PutVals(slices.Repeat([]api.Val{i64}, n))); got != head+strings.Repeat("7e", n) {
			t.Errorf("%d: %s", n, got)
		}
	}
}

// plainSubs are declared types by their shortest bytes.
func plainSubs() map[string]api.Sub {
	comps := map[string]api.Comp{
		"600000": {Kind: api.CFunc}, "5f00": {Kind: api.CStruct},
		"60017f00": {Kind: api.CFunc, Params: []api.Val{i32}}, "6000017e": {Kind: api.CFunc, Results: []api.Val{i64}},
		"60027e7f037f7f7e": {Kind: api.CFunc, Params: []api.Val{i64, i32}, Results: []api.Val{i32, i32, i64}},
	}
	stores := map[string]api.Store{"78": {Pack: 8, Val: i32}, "77": {Pack: 16, Val: i32}}
	for b, v := range plainVals() {
		stores[b] = api.Store{Val: v}
		comps["6001"+b+"00"] = api.Comp{Kind: api.CFunc, Params: []api.Val{v}}
		comps["60017f027e"+b] = api.Comp{Kind: api.CFunc, Params: []api.Val{i32}, Results: []api.Val{i64, v}}
	}
	for b, s := range stores {
		for last, mut := range map[string]bool{"00": false, "01": true} {
			f := api.Field{Store: s, Mut: mut}
			comps["5e"+b+last] = api.Comp{Kind: api.CArray, Fields: []api.Field{f}}
			comps["5f01"+b+last] = api.Comp{Kind: api.CStruct, Fields: []api.Field{f}}
			comps["5f037f01"+b+last+"7800"] = api.Comp{Kind: api.CStruct, Fields: []api.Field{{Store: stores["7f"], Mut: true}, f, {Store: stores["78"]}}}
		}
	}
	out := map[string]api.Sub{}
	for b, c := range comps {
		for supers, l := range map[string][]api.Heap{"00": nil, "0100": {{Kind: api.HIndex}}, "0105": {{Kind: api.HIndex, N: 5}}, "0240ffffffff0f": {{Kind: api.HIndex, N: 64}, {Kind: api.HIndex, N: api.MaxIndex}}} {
			out["50"+supers+b] = api.Sub{Supers: l, Comp: c}
			if l == nil {
				out[b] = api.Sub{Final: true, Comp: c}
			} else {
				out["4f"+supers+b] = api.Sub{Final: true, Supers: l, Comp: c}
			}
		}
	}
	return out
}

// oddSubs are declared types that are not plain.
func oddSubs() []api.Sub {
	l := []api.Sub{{}, {Final: true}, {Comp: api.Comp{Kind: 4}}, {Comp: api.Comp{Kind: -1}}, {Comp: api.Comp{Kind: api.CArray}}}
	one := []api.Field{{Store: api.Store{Val: i32}}}
	for _, c := range []api.Comp{
		{Kind: api.CArray, Fields: append(one, one...)}, {Kind: api.CArray, Fields: one, Params: []api.Val{i32}},
		{Kind: api.CFunc, Fields: one}, {Kind: api.CStruct, Params: []api.Val{i32}}, {Kind: api.CStruct, Results: []api.Val{i32}},
	} {
		l = append(l, api.Sub{Comp: c})
	}
	for _, s := range []api.Store{{}, {Pack: 8}, {Pack: 8, Val: i64}, {Pack: 32, Val: i32}, {Pack: -8, Val: i32}} {
		l = append(l, api.Sub{Comp: api.Comp{Kind: api.CStruct, Fields: []api.Field{{Store: s}}}})
	}
	for _, h := range append(oddHeaps(), api.Heap{Kind: api.HAny}) {
		l = append(l, api.Sub{Supers: []api.Heap{h}, Comp: api.Comp{Kind: api.CStruct}})
	}
	for _, v := range oddVals() {
		l = append(l, api.Sub{Comp: api.Comp{Kind: api.CFunc, Params: []api.Val{v}}}, api.Sub{Comp: api.Comp{Kind: api.CFunc, Results: []api.Val{v}}})
	}
	return l
}

func TestP64Groups(t *testing.T) {
	first, second := plainSubs()["50010560017f00"], plainSubs()["5f00"]
	for b, s := range plainSubs() {
		for want, l := range map[string][]api.Sub{b: {s}, "4e02" + b + b: {s, s}, "4e0350010560017f00" + b + "5f00": {first, s, second}} {
			if got := hexed(PutRec(l)); got != want {
				t.Fatalf("%+v: %s, want %s", l, got, want)
			}
		}
	}
	for _, l := range [][]api.Sub{nil, {}} {
		if len(PutRec(l)) != 0 {
			t.Error("a group of none")
		}
	}
	for _, s := range oddSubs() {
		for _, l := range [][]api.Sub{{s}, {s, first}, {first, s}, {second, s, first}} {
			if b := PutRec(l); len(b) != 0 {
				t.Errorf("%+v: %x", l, b)
			}
		}
	}
}

// What is put is new, and what was handed in is as it was.
func TestP64Apart(t *testing.T) {
	l := []api.Sub{plainSubs()["50010560017f00"], plainSubs()["5f00"]}
	a, b := PutRec(l), PutRec(l)
	a[0] = 9
	if b[0] != 0x4e || hexed(PutRec(l)) != hexed(b) {
		t.Error("shared")
	}
	h := PutHeap(api.Heap{Kind: api.HAny})
	h[0] = 0
	if hexed(PutHeap(api.Heap{Kind: api.HAny})) != "6e" {
		t.Error("shared")
	}
}

// TestP65Put: what is put is read as it was, whatever stands behind.
func TestP65Put(t *testing.T) {
	for _, behind := range []string{"", "\x00", "\x7f", "\x80\x80", "\x4e\x05", "\xff\xff\xff\xff\xff"} {
		for b, s := range plainSubs() {
			l := []api.Sub{s, s, s}
			one, three := PutRec(l[:1]), PutRec(l)
			r := Open([]byte(string(one) + string(three) + behind))
			got, all := r.Rec(), r.Rec()
			if !reflect.DeepEqual(got, l[:1]) || !reflect.DeepEqual(all, l) {
				t.Fatalf("%s: %+v", b, got)
			}
			expect(t, r, met{api.OK, 0, len(one) + len(three), len(behind)}, b)
		}
		for b, v := range plainVals() {
			l := []api.Val{v, i32, v}
			r := Open([]byte(string(PutVal(v)) + string(PutVals(l)) + behind))
			if got := r.Val(); got != v {
				t.Errorf("%s: %+v", b, got)
			}
			if got := r.Vals(); !kind.SameVals(got, l) {
				t.Errorf("%s: %+v", b, got)
			}
			expect(t, r, met{api.OK, 0, len(PutVal(v)) + len(PutVals(l)), len(behind)}, b)
		}
		for b, h := range plainHeaps() {
			r := Open([]byte(string(PutHeap(h)) + behind))
			if got := r.Heap(); got != h {
				t.Errorf("%s: %+v", b, got)
			}
			expect(t, r, met{api.OK, 0, len(b) / 2, len(behind)}, b)
		}
	}
}

// back puts what is read of some bytes: that has no more bytes, and is read as the same.
func back(t *testing.T, b []byte) {
	t.Helper()
	r := Open(b)
	if l := r.Rec(); len(l) > 0 {
		put := PutRec(l)
		if len(put) == 0 || len(put) > r.At() || !reflect.DeepEqual(Open(put).Rec(), l) {
			t.Fatalf("%x: %x", b, put)
		}
	}
	r = Open(b)
	l := r.Vals()
	if e, _ := r.Err(); e == api.OK {
		if put := PutVals(l); len(put) == 0 || len(put) > r.At() || !reflect.DeepEqual(Open(put).Vals(), l) {
			t.Fatalf("%x: %x", b, put)
		}
	}
	r = Open(b)
	v := r.Val()
	if e, _ := r.Err(); e == api.OK {
		if put := PutVal(v); len(put) == 0 || len(put) > r.At() || Open(put).Val() != v {
			t.Fatalf("%x: %x", b, put)
		}
	}
	r = Open(b)
	h := r.Heap()
	if e, _ := r.Err(); e == api.OK {
		if put := PutHeap(h); len(put) == 0 || len(put) > r.At() || Open(put).Heap() != h {
			t.Fatalf("%x: %x", b, put)
		}
	}
}

func TestP65Read(t *testing.T) {
	for long := range 3 {
		allOf(every(), long, func(b []byte) { back(t, b) })
	}
	allOf("\x00\x01\x02\x4e\x4f\x50\x5e\x5f\x60\x63\x6e\x7f\x80", 4, func(b []byte) { back(t, b) })
	for _, s := range longs() {
		back(t, []byte(s))
		for at := range len(s) {
			b := bytes.Clone([]byte(s))
			for x := range 256 {
				b[at] = byte(x)
				back(t, b)
			}
		}
	}
}
