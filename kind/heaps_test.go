package kind

import (
	"reflect"
	"slices"
	"testing"

	"geode/api"
)

// heapsOf are the heap types that stand in s, as the chapter's words go.
func heapsOf(s api.Sub) []api.Heap {
	out := slices.Clone(s.Supers)
	vals := slices.Concat(s.Comp.Params, s.Comp.Results)
	for _, f := range s.Comp.Fields {
		vals = append(vals, f.Store.Val)
	}
	for _, v := range vals {
		if v.Kind == api.VRef {
			out = append(out, v.Heap)
		}
	}
	return out
}

// crowded are types that have more than their kinds have, and heap types where there are none.
func crowded() []api.Sub {
	at := 0
	next := func(v api.Val) api.Val {
		at++
		v.Heap.N = at
		return v
	}
	three := func() []api.Val {
		return []api.Val{next(ref(api.HDef, 0)), next(api.Val{Kind: api.VI32, Heap: api.Heap{Kind: api.HIndex}}), next(refNull(api.HAny, 0)), next(api.Val{Kind: api.VBot, Null: true})}
	}
	var out []api.Sub
	for _, k := range []api.CompKind{api.CFunc, api.CStruct, api.CArray, 0, 4, -1} {
		s := api.Sub{Supers: []api.Heap{{Kind: api.HAny}, index(-1), {Kind: api.HRec, N: -2}, {}}}
		s.Comp = api.Comp{Kind: k, Params: three(), Results: three(), Fields: fields(three()...)}
		for _, pack := range []int{8, 16, 5} {
			s.Comp.Fields = append(s.Comp.Fields, api.Field{Store: api.Store{Pack: pack, Val: next(ref(api.HRec, 0))}, Mut: true})
			s.Comp.Fields = append(s.Comp.Fields, api.Field{Store: api.Store{Pack: pack, Val: next(i64)}})
		}
		out = append(out, s)
	}
	return out
}

func manySubs() []api.Sub {
	l := append(someSubs(), crowded()...)
	for _, c := range oddComps() {
		l = append(l, api.Sub{Comp: c})
	}
	for _, v := range oddVals() {
		for _, c := range holding(v) {
			l = append(l, api.Sub{Supers: []api.Heap{v.Heap}, Comp: c})
		}
	}
	return append(l, full(), api.Sub{})
}

func TestP42Heaps(t *testing.T) {
	for _, s := range manySubs() {
		before := again(s)
		all := Heaps(s)
		// Whoever goes over them a second time is told the same.
		for range 2 {
			if got := slices.Collect(all); !slices.Equal(got, heapsOf(s)) {
				t.Fatalf("%+v: %v", s, got)
			}
		}
		if !reflect.DeepEqual(before, again(s)) {
			t.Fatalf("%+v is changed", before)
		}
	}
}

// What is left early is told no more.
func TestP42HeapsLeft(t *testing.T) {
	for _, s := range append(crowded(), full()) {
		want := heapsOf(s)
		for stop := range want {
			var got []api.Heap
			Heaps(s)(func(h api.Heap) bool {
				got = append(got, h)
				return len(got) <= stop
			})
			if !slices.Equal(got, want[:stop+1]) {
				t.Fatalf("%+v left at %d: %v", s, stop, got)
			}
		}
	}
}

func TestP42HeapsOfNone(t *testing.T) {
	for _, s := range []api.Sub{{}, {Comp: api.Comp{Kind: api.CFunc, Params: []api.Val{i32}, Results: []api.Val{i64, bot}}}, {Comp: api.Comp{Kind: api.CArray, Fields: []api.Field{packed(8)}}}} {
		all := Heaps(s)
		if all == nil {
			t.Fatalf("%+v: nothing to go over", s)
		}
		for h := range all {
			t.Errorf("%+v: %v", s, h)
		}
	}
}

// The lists that were handed in are the caller's, who may set them when the call has answered.
func TestP42HeapsKeepsNothing(t *testing.T) {
	s := full()
	want := heapsOf(s)
	all := Heaps(s)
	clear(s.Supers)
	clear(s.Comp.Params)
	clear(s.Comp.Results)
	clear(s.Comp.Fields)
	if got := slices.Collect(all); !slices.Equal(got, want) {
		t.Errorf("%v", got)
	}
}

// mapped is what Map is to tell of s, if the heap types become those of l, by order.
func mapped(s api.Sub, l []api.Heap) api.Sub {
	s = again(s)
	at := 0
	set := func(h *api.Heap) {
		*h = l[at]
		at++
	}
	setVal := func(v *api.Val) {
		if v.Kind == api.VRef {
			set(&v.Heap)
		}
	}
	for i := range s.Supers {
		set(&s.Supers[i])
	}
	for i := range s.Comp.Params {
		setVal(&s.Comp.Params[i])
	}
	for i := range s.Comp.Results {
		setVal(&s.Comp.Results[i])
	}
	for i := range s.Comp.Fields {
		setVal(&s.Comp.Fields[i].Store.Val)
	}
	return s
}

func TestP42Map(t *testing.T) {
	for _, s := range manySubs() {
		before := again(s)
		var asked, told []api.Heap
		got := Map(s, func(h api.Heap) api.Heap {
			asked = append(asked, h)
			told = append(told, api.Heap{Kind: api.HeapKind(len(asked) % 20), N: -100 * len(asked)})
			return told[len(told)-1]
		})
		if !slices.Equal(asked, heapsOf(s)) {
			t.Fatalf("%+v: asked of %v", s, asked)
		}
		if !reflect.DeepEqual(again(got), mapped(s, told)) {
			t.Fatalf("%+v: %+v", s, got)
		}
		if !reflect.DeepEqual(before, again(s)) {
			t.Fatalf("%+v is changed", before)
		}
	}
}

// wipe sets all that s has, and what lies behind within its lists' room.
func wipe(s api.Sub) {
	clear(s.Supers[:cap(s.Supers)])
	clear(s.Comp.Params[:cap(s.Comp.Params)])
	clear(s.Comp.Results[:cap(s.Comp.Results)])
	clear(s.Comp.Fields[:cap(s.Comp.Fields)])
}

func TestP42MapIsNew(t *testing.T) {
	itself := func(h api.Heap) api.Heap { return h }
	for _, s := range append(someSubs(), full(), crowded()[0]) {
		want := again(s)
		wipe(Map(s, itself))
		if !Same(s, want) {
			t.Fatalf("%+v shares with what is told", want)
		}
		got := Map(s, itself)
		wipe(s)
		if !Same(got, want) {
			t.Fatalf("%+v shares with what was handed in", want)
		}
	}
}

// Two lists may be one where they are handed in, but are told apart.
func TestP42MapPartsLists(t *testing.T) {
	room := []api.Val{ref(api.HAny, 0), ref(api.HEq, 0), i32, i64}
	s := api.Sub{Comp: api.Comp{Kind: api.CFunc, Params: room[:2], Results: room[:3]}}
	n := 0
	got := Map(s, func(api.Heap) api.Heap {
		n++
		return index(n)
	})
	want := api.Comp{Kind: api.CFunc, Params: []api.Val{ref(api.HIndex, 1), ref(api.HIndex, 2)}, Results: []api.Val{ref(api.HIndex, 3), ref(api.HIndex, 4), i32}}
	if n != 4 || !Same(got, api.Sub{Comp: want}) {
		t.Errorf("%+v", got)
	}
	got.Comp.Params = append(got.Comp.Params, i64)
	clear(got.Comp.Params)
	if !SameVals(got.Comp.Results, want.Results) || room[0] != ref(api.HAny, 0) || room[2] != i32 {
		t.Errorf("%+v, %+v", got, room)
	}
}

func TestP42MapVal(t *testing.T) {
	vals, _ := someVals()
	for _, v := range vals {
		var asked []api.Heap
		got := MapVal(v, func(h api.Heap) api.Heap {
			asked = append(asked, h)
			return api.Heap{Kind: api.HDef, N: 77}
		})
		want, of := v, []api.Heap(nil)
		if v.Kind == api.VRef {
			want.Heap = api.Heap{Kind: api.HDef, N: 77}
			of = []api.Heap{v.Heap}
		}
		if got != want || !slices.Equal(asked, of) {
			t.Errorf("%+v: %+v, asked of %v", v, got, asked)
		}
	}
}

func TestP46MapItself(t *testing.T) {
	itself := func(h api.Heap) api.Heap { return h }
	for _, s := range manySubs() {
		if got := Map(s, itself); !Same(got, s) || PlainSub(got) != PlainSub(s) || Text(got) != Text(s) {
			t.Errorf("%+v: %+v", s, got)
		}
	}
	vals, _ := someVals()
	for _, v := range vals {
		if MapVal(v, itself) != v {
			t.Errorf("%+v", v)
		}
	}
}
