package kind

import (
	"math"
	"testing"

	"geode/api"
)

var (
	i32 = api.Val{Kind: api.VI32}
	i64 = api.Val{Kind: api.VI64}
	bot = api.Val{Kind: api.VBot}
)

func ref(k api.HeapKind, n int) api.Val {
	return api.Val{Kind: api.VRef, Heap: api.Heap{Kind: k, N: n}}
}

func refNull(k api.HeapKind, n int) api.Val {
	return api.Val{Kind: api.VRef, Null: true, Heap: api.Heap{Kind: k, N: n}}
}

func index(n int) api.Heap { return api.Heap{Kind: api.HIndex, N: n} }

// again is the same type in lists of its own, none where there is an empty one.
func again(s api.Sub) api.Sub {
	s.Supers = append([]api.Heap(nil), s.Supers...)
	s.Comp.Params = append([]api.Val(nil), s.Comp.Params...)
	s.Comp.Results = append([]api.Val(nil), s.Comp.Results...)
	s.Comp.Fields = append([]api.Field(nil), s.Comp.Fields...)
	return s
}

func fields(l ...api.Val) []api.Field {
	var out []api.Field
	for _, v := range l {
		out = append(out, api.Field{Store: api.Store{Val: v}})
	}
	return out
}

func packed(pack int) api.Field { return api.Field{Store: api.Store{Pack: pack, Val: i32}} }

func mut(f api.Field) api.Field {
	f.Mut = true
	return f
}

// names are the heap types that are given, from 1 on.
func names() []string {
	return []string{"any", "eq", "i31", "struct", "array", "none", "func", "nofunc", "extern", "noextern", "exn", "noexn"}
}

// someVals are value types that differ in one thing from others of them, the plain ones first, of which there are as many as is told.
func someVals() (l []api.Val, plain int) {
	l = []api.Val{i32, i64}
	for _, null := range []bool{false, true} {
		for k := range names() {
			l = append(l, api.Val{Kind: api.VRef, Null: null, Heap: api.Heap{Kind: api.HeapKind(k + 1)}})
		}
		for _, n := range []int{0, 1, 10, 1<<32 - 1} {
			l = append(l, api.Val{Kind: api.VRef, Null: null, Heap: index(n)})
		}
	}
	plain = len(l)
	return append(l, oddVals()...), plain
}

// oddVals are value types that are not plain.
func oddVals() []api.Val {
	l := []api.Val{{}, bot, {Kind: -1}, {Kind: 5}, {Kind: math.MinInt}, {Kind: math.MaxInt}, {Null: true}}
	for k := range names() {
		for _, n := range []int{math.MinInt, -1, 1, math.MaxInt} {
			l = append(l, ref(api.HeapKind(k+1), n), refNull(api.HeapKind(k+1), n))
		}
	}
	for _, n := range []int{math.MinInt, -1, 1 << 32, math.MaxInt} {
		l = append(l, ref(api.HIndex, n), refNull(api.HIndex, n))
	}
	for _, k := range []api.HeapKind{math.MinInt, -1, 0, api.HRec, api.HDef, 16, math.MaxInt} {
		for _, n := range []int{-1, 0, 1, 1<<32 - 1} {
			l = append(l, ref(k, n), refNull(k, n))
		}
	}
	for _, k := range []api.ValKind{api.VI32, api.VI64, api.VBot} {
		l = append(l, api.Val{Kind: k, Null: true})
		for _, h := range []api.Heap{{N: 1}, {N: -1}, {Kind: api.HAny}, {Kind: api.HIndex}, {Kind: api.HDef, N: 1}, {Kind: -1}} {
			l = append(l, api.Val{Kind: k, Heap: h}, api.Val{Kind: k, Null: true, Heap: h})
		}
	}
	return l
}

// someSubs are plain declared types, each another one.
func someSubs() []api.Sub {
	vals, plain := someVals()
	comps := []api.Comp{{Kind: api.CFunc}, {Kind: api.CStruct}}
	for _, v := range vals[:plain] {
		f := fields(v)[0]
		comps = append(comps,
			api.Comp{Kind: api.CFunc, Params: []api.Val{v}},
			api.Comp{Kind: api.CFunc, Results: []api.Val{v}},
			api.Comp{Kind: api.CFunc, Params: []api.Val{v, i32}, Results: []api.Val{i64, v}},
			api.Comp{Kind: api.CFunc, Params: []api.Val{v, v, v}})
		comps = append(comps, ofFields(f)...)
		comps = append(comps, ofFields(mut(f))...)
	}
	for _, pack := range []int{8, 16} {
		comps = append(comps, ofFields(packed(pack))...)
		comps = append(comps, ofFields(mut(packed(pack)))...)
	}
	var out []api.Sub
	for _, c := range comps {
		for _, supers := range [][]api.Heap{nil, {index(0)}, {index(1<<32 - 1)}, {index(1), index(0)}, {index(1), index(0), index(0)}} {
			out = append(out, api.Sub{Supers: supers, Comp: c}, api.Sub{Final: true, Supers: supers, Comp: c})
		}
	}
	return out
}

// ofFields are a struct, an array, and a struct of more than one, each other than what other fields make.
func ofFields(f api.Field) []api.Comp {
	return []api.Comp{
		{Kind: api.CStruct, Fields: []api.Field{f}},
		{Kind: api.CStruct, Fields: []api.Field{f, f}},
		{Kind: api.CStruct, Fields: []api.Field{packed(8), f, mut(packed(16))}},
		{Kind: api.CArray, Fields: []api.Field{f}},
	}
}

// oddComps are composite types that are not plain, whatever value types stand in them.
func oddComps() []api.Comp {
	one := fields(i32)
	l := []api.Comp{
		{}, {Kind: -1}, {Kind: 4}, {Kind: math.MinInt}, {Kind: math.MaxInt},
		{Params: []api.Val{i32}}, {Kind: 4, Results: []api.Val{i32}}, {Fields: one}, {Kind: 4, Fields: one},
		{Kind: api.CFunc, Fields: one},
		{Kind: api.CFunc, Params: []api.Val{i32}, Results: []api.Val{i32}, Fields: fields(i32, i64)},
		{Kind: api.CStruct, Params: []api.Val{i32}},
		{Kind: api.CStruct, Results: []api.Val{i32}},
		{Kind: api.CStruct, Params: []api.Val{i32}, Results: []api.Val{i64}, Fields: one},
		{Kind: api.CArray},
		{Kind: api.CArray, Fields: fields(i32, i32)},
		{Kind: api.CArray, Fields: fields(i32, i32, i32)},
		{Kind: api.CArray, Params: []api.Val{i32}},
		{Kind: api.CArray, Params: []api.Val{i32}, Fields: one},
		{Kind: api.CArray, Results: []api.Val{i32}, Fields: one},
	}
	for _, pack := range []int{math.MinInt, -16, -8, -1, 1, 7, 9, 15, 17, 24, 32, 64, math.MaxInt} {
		l = append(l, ofFields(packed(pack))...)
	}
	return l
}

// holding are composite types that are plain just if v is.
func holding(v api.Val) []api.Comp {
	f := fields(v)[0]
	l := []api.Comp{
		{Kind: api.CFunc, Params: []api.Val{v}},
		{Kind: api.CFunc, Results: []api.Val{v}},
		{Kind: api.CFunc, Params: []api.Val{i32, v}, Results: []api.Val{i32}},
		{Kind: api.CFunc, Params: []api.Val{i32}, Results: []api.Val{i32, v, i32}},
	}
	return append(append(l, ofFields(f)...), ofFields(mut(f))...)
}

func TestP41Vals(t *testing.T) {
	vals, plain := someVals()
	for i, v := range vals {
		if PlainVal(v) != (i < plain) {
			t.Errorf("%+v: %v", v, PlainVal(v))
		}
		for _, c := range holding(v) {
			if PlainSub(api.Sub{Comp: c}) != (i < plain) {
				t.Errorf("%+v: %v", c, i >= plain)
			}
		}
	}
}

func TestP41PackedVals(t *testing.T) {
	vals, _ := someVals()
	for _, v := range vals {
		for _, pack := range []int{8, 16} {
			f := api.Field{Store: api.Store{Pack: pack, Val: v}}
			for _, c := range append(ofFields(f), ofFields(mut(f))...) {
				if PlainSub(api.Sub{Comp: c}) != (v == i32) {
					t.Errorf("%+v: %v", c, v != i32)
				}
			}
		}
	}
}

func TestP41Subs(t *testing.T) {
	for _, s := range someSubs() {
		if !PlainSub(s) {
			t.Errorf("%+v", s)
		}
		for _, c := range oddComps() {
			if odd := (api.Sub{Final: s.Final, Supers: s.Supers, Comp: c}); PlainSub(odd) {
				t.Fatalf("%+v", odd)
			}
		}
	}
	empty := api.Comp{Kind: api.CStruct, Params: []api.Val{}, Results: []api.Val{}, Fields: []api.Field{}}
	if !PlainSub(api.Sub{Supers: []api.Heap{}, Comp: empty}) {
		t.Error("lists that are empty")
	}
	empty.Kind = api.CFunc
	if !PlainSub(api.Sub{Comp: empty}) {
		t.Error("a function's lists that are empty")
	}
	if PlainSub(api.Sub{}) {
		t.Error("nothing")
	}
}

// A super has a number, even where a reference need not.
func TestP41Supers(t *testing.T) {
	for k := api.HeapKind(-1); k <= 17; k++ {
		for _, n := range []int{math.MinInt, -1, 0, 1, 1<<32 - 1, 1 << 32, math.MaxInt} {
			h := api.Heap{Kind: k, N: n}
			want := k == 13 && (n == 0 || n == 1 || n == 1<<32-1)
			for _, l := range [][]api.Heap{{h}, {index(0), h}, {h, index(0)}, {index(2), h, index(2)}} {
				if s := (api.Sub{Supers: l, Comp: api.Comp{Kind: api.CStruct}}); PlainSub(s) != want {
					t.Errorf("%+v: %v", s, !want)
				}
			}
		}
	}
}

// changed are types that each are other than s by one thing.
func changed(s api.Sub) []api.Sub {
	var out []api.Sub
	add := func(change func(*api.Sub)) {
		c := again(s)
		change(&c)
		out = append(out, c)
	}
	add(func(c *api.Sub) { c.Final = !c.Final })
	add(func(c *api.Sub) { c.Supers = append(c.Supers, index(0)) })
	add(func(c *api.Sub) { c.Comp.Kind++ })
	add(func(c *api.Sub) { c.Comp.Params = append(c.Comp.Params, api.Val{}) })
	add(func(c *api.Sub) { c.Comp.Results = append(c.Comp.Results, i32) })
	add(func(c *api.Sub) { c.Comp.Fields = append(c.Comp.Fields, api.Field{}) })
	for i := range s.Supers {
		add(func(c *api.Sub) { c.Supers[i].Kind++ })
		add(func(c *api.Sub) { c.Supers[i].N-- })
		add(func(c *api.Sub) { c.Supers = c.Supers[:i] })
	}
	for i := range s.Comp.Params {
		changeVal(add, func(c *api.Sub) *api.Val { return &c.Comp.Params[i] })
		add(func(c *api.Sub) { c.Comp.Params = c.Comp.Params[:i] })
	}
	for i := range s.Comp.Results {
		changeVal(add, func(c *api.Sub) *api.Val { return &c.Comp.Results[i] })
		add(func(c *api.Sub) { c.Comp.Results = c.Comp.Results[:i] })
	}
	for i := range s.Comp.Fields {
		changeVal(add, func(c *api.Sub) *api.Val { return &c.Comp.Fields[i].Store.Val })
		add(func(c *api.Sub) { c.Comp.Fields[i].Store.Pack += 8 })
		add(func(c *api.Sub) { c.Comp.Fields[i].Mut = !c.Comp.Fields[i].Mut })
		add(func(c *api.Sub) { c.Comp.Fields = c.Comp.Fields[:i] })
	}
	return out
}

func changeVal(add func(func(*api.Sub)), at func(*api.Sub) *api.Val) {
	add(func(c *api.Sub) { at(c).Kind++ })
	add(func(c *api.Sub) { at(c).Null = !at(c).Null })
	add(func(c *api.Sub) { at(c).Heap.Kind++ })
	add(func(c *api.Sub) { at(c).Heap.N++ })
}

// full has something in all that a type may have, of whatever kind it is.
func full() api.Sub {
	return api.Sub{
		Final:  true,
		Supers: []api.Heap{index(7), {Kind: api.HRec, N: 8}, {Kind: api.HAny}},
		Comp: api.Comp{
			Kind:    api.CStruct,
			Params:  []api.Val{i32, refNull(api.HDef, 9), bot},
			Results: []api.Val{ref(api.HEq, 0), i64},
			Fields:  append(fields(ref(api.HIndex, 3), i64), mut(packed(8))),
		},
	}
}

func TestP43Same(t *testing.T) {
	for _, s := range append(someSubs(), full(), api.Sub{}) {
		if !Same(s, again(s)) {
			t.Errorf("%+v", s)
		}
		for _, c := range changed(s) {
			if Same(s, c) || Same(c, s) {
				t.Errorf("%+v, %+v", s, c)
			}
		}
	}
	empty := api.Sub{Supers: []api.Heap{}, Comp: api.Comp{Params: []api.Val{}, Results: []api.Val{}, Fields: []api.Field{}}}
	if !Same(api.Sub{}, empty) || !Same(empty, api.Sub{}) {
		t.Error("none and an empty list")
	}
}

func TestP43SameVals(t *testing.T) {
	vals, _ := someVals()
	for i, a := range vals {
		for k, b := range vals {
			if SameVals([]api.Val{a}, []api.Val{b}) != (i == k) || SameVals([]api.Val{i32, a}, []api.Val{i32, b}) != (i == k) {
				t.Errorf("%+v, %+v", a, b)
			}
		}
		if SameVals([]api.Val{a}, nil) || SameVals(nil, []api.Val{a}) || SameVals([]api.Val{a}, []api.Val{a, a}) || SameVals([]api.Val{a, a}, []api.Val{a}) {
			t.Errorf("%+v and lists of others", a)
		}
	}
	if !SameVals(nil, nil) || !SameVals(nil, []api.Val{}) || !SameVals([]api.Val{}, nil) || SameVals([]api.Val{i32, i64}, []api.Val{i64, i32}) {
		t.Error("none, and another order")
	}
}

func TestP45Default(t *testing.T) {
	heaps := []api.Heap{{}, {Kind: api.HAny}, {Kind: api.HNone}, {Kind: api.HNoExn, N: 4}, index(3), index(-1), {Kind: api.HRec}, {Kind: api.HDef, N: 2}, {Kind: -1}}
	for _, h := range heaps {
		for _, null := range []bool{false, true} {
			for k, want := range map[api.ValKind]bool{
				api.VI32: true, api.VI64: true, api.VRef: null, api.VBot: false,
				0: false, -1: false, 5: false, math.MinInt: false, math.MaxInt: false,
			} {
				if v := (api.Val{Kind: k, Null: null, Heap: h}); Default(v) != want {
					t.Errorf("%+v: %v", v, !want)
				}
			}
		}
	}
}
