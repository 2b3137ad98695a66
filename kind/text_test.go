package kind

import (
	"reflect"
	"slices"
	"strconv"
	"strings"
	"testing"

	"geode/api"
)

// text is a writing that is read from the left.
type text struct {
	t    *testing.T
	rest string
}

// next takes a bracket, or a word up to a blank or a bracket.
func (x *text) next() string {
	n := strings.IndexAny(x.rest, " ()")
	if n < 0 {
		n = len(x.rest)
	} else if n == 0 && x.rest[0] != ' ' {
		n = 1
	}
	s := x.rest[:n]
	x.rest = x.rest[n:]
	return s
}

func (x *text) take(s string) {
	if !strings.HasPrefix(x.rest, s) {
		x.t.Fatalf("%q where %q is to stand", x.rest, s)
	}
	x.rest = x.rest[len(s):]
}

// may takes s, if it stands there.
func (x *text) may(s string) bool {
	rest, ok := strings.CutPrefix(x.rest, s)
	x.rest = rest
	return ok
}

func (x *text) heap() api.Heap {
	s := x.next()
	if at := slices.Index(names(), s); at >= 0 {
		return api.Heap{Kind: api.HeapKind(at + 1)}
	}
	k := api.HIndex
	if n, ok := strings.CutPrefix(s, "rec."); ok {
		s, k = n, api.HRec
	} else if n, ok := strings.CutPrefix(s, "def."); ok {
		s, k = n, api.HDef
	}
	n, err := strconv.Atoi(s)
	if err != nil || strconv.Itoa(n) != s {
		x.t.Fatalf("%q is no number", s)
	}
	return api.Heap{Kind: k, N: n}
}

func (x *text) val() api.Val {
	if x.may("(ref ") {
		v := api.Val{Kind: api.VRef, Null: x.may("null ")}
		v.Heap = x.heap()
		x.take(")")
		return v
	}
	s := x.next()
	at := slices.Index([]string{"", "i32", "i64", "ref", "bot"}, s)
	if at < 1 || at == 3 {
		x.t.Fatalf("%q is no value type", s)
	}
	return api.Val{Kind: api.ValKind(at)}
}

func (x *text) field() api.Field {
	if x.may("(mut ") {
		f := x.field()
		x.take(")")
		return mut(f)
	}
	if x.may("i8") {
		return packed(8)
	}
	if x.may("i16") {
		return packed(16)
	}
	return api.Field{Store: api.Store{Val: x.val()}}
}

// list takes what stands behind a head, each behind one blank.
func list[T any](x *text, one func() T) []T {
	var out []T
	for !x.may(")") {
		x.take(" ")
		out = append(out, one())
	}
	return out
}

func (x *text) comp() api.Comp {
	if x.may("(struct") {
		return api.Comp{Kind: api.CStruct, Fields: list(x, x.field)}
	}
	if x.may("(array") {
		return api.Comp{Kind: api.CArray, Fields: list(x, x.field)}
	}
	x.take("(func")
	c := api.Comp{Kind: api.CFunc}
	if x.may(" (param") {
		c.Params = list(x, x.val)
	}
	if x.may(" (result") {
		c.Results = list(x, x.val)
	}
	x.take(")")
	return c
}

func (x *text) sub() api.Sub {
	x.take("(sub ")
	s := api.Sub{Final: x.may("final ")}
	for !strings.HasPrefix(x.rest, "(") {
		s.Supers = append(s.Supers, x.heap())
		x.take(" ")
	}
	s.Comp = x.comp()
	x.take(")")
	return s
}

func parse(t *testing.T, s string) api.Sub {
	t.Helper()
	x := &text{t, s}
	sub := x.sub()
	if x.rest != "" {
		t.Fatalf("%q is left of %q", x.rest, s)
	}
	return sub
}

func TestP44Heaps(t *testing.T) {
	for i, n := range names() {
		k := api.HeapKind(i + 1)
		if got := ValText(ref(k, 0)); got != "(ref "+n+")" {
			t.Errorf("%d: %s", k, got)
		}
		if got := ValText(refNull(k, 0)); got != "(ref null "+n+")" {
			t.Errorf("%d, null: %s", k, got)
		}
	}
	for _, n := range []string{"0", "7", "10", "4294967295"} {
		at, _ := strconv.Atoi(n)
		for k, before := range map[api.HeapKind]string{api.HIndex: "", api.HRec: "rec.", api.HDef: "def."} {
			h := before + n
			if got := ValText(ref(k, at)); got != "(ref "+h+")" {
				t.Errorf("%d, %d: %s", k, at, got)
			}
			if got := ValText(refNull(k, at)); got != "(ref null "+h+")" {
				t.Errorf("%d, %d, null: %s", k, at, got)
			}
			if got := Text(api.Sub{Supers: []api.Heap{{Kind: k, N: at}}, Comp: api.Comp{Kind: api.CStruct}}); got != "(sub "+h+" (struct))" {
				t.Errorf("%d, %d, as a super: %s", k, at, got)
			}
		}
	}
	if ValText(i32) != "i32" || ValText(i64) != "i64" || ValText(bot) != "bot" {
		t.Error("numbers", ValText(i32), ValText(i64), ValText(bot))
	}
}

func TestP44Subs(t *testing.T) {
	none, self := refNull(api.HAny, 0), refNull(api.HRec, 0)
	for want, s := range map[string]api.Sub{
		"(sub final (func (param i32)))":              {Final: true, Comp: api.Comp{Kind: api.CFunc, Params: []api.Val{i32}}},
		"(sub 2 (array (mut i8)))":                    {Supers: []api.Heap{index(2)}, Comp: api.Comp{Kind: api.CArray, Fields: []api.Field{mut(packed(8))}}},
		"(sub (struct i64 (ref null rec.0)))":         {Comp: api.Comp{Kind: api.CStruct, Fields: fields(i64, self)}},
		"(sub (func))":                                {Comp: api.Comp{Kind: api.CFunc, Params: []api.Val{}, Results: []api.Val{}}},
		"(sub (func (result i64)))":                   {Comp: api.Comp{Kind: api.CFunc, Results: []api.Val{i64}}},
		"(sub (func (param i32) (result i64)))":       {Comp: api.Comp{Kind: api.CFunc, Params: []api.Val{i32}, Results: []api.Val{i64}}},
		"(sub (func (param (ref null any) i64 i32)))": {Comp: api.Comp{Kind: api.CFunc, Params: []api.Val{none, i64, i32}}},
		"(sub final 1 2 def.3 (struct))":              {Final: true, Supers: []api.Heap{index(1), index(2), {Kind: api.HDef, N: 3}}, Comp: api.Comp{Kind: api.CStruct}},
		"(sub (struct i8 i16 (mut i16) (mut i32)))":   {Comp: api.Comp{Kind: api.CStruct, Fields: []api.Field{packed(8), packed(16), mut(packed(16)), mut(packed(0))}}},
		"(sub (array (mut (ref null any))))":          {Comp: api.Comp{Kind: api.CArray, Fields: []api.Field{mut(fields(none)[0])}}},
		"(sub (array i64))":                           {Comp: api.Comp{Kind: api.CArray, Fields: fields(i64)}},
	} {
		if got := Text(s); got != want {
			t.Errorf("%s, want %s", got, want)
		}
	}
}

// What is written can be read again as it was: so there is nothing of a type that its writing does not tell.
func TestP46Writings(t *testing.T) {
	seen := map[string]api.Sub{}
	for _, s := range someSubs() {
		w := Text(s)
		if other, ok := seen[w]; ok {
			t.Fatalf("%s: %+v and %+v", w, s, other)
		}
		seen[w] = s
		if got := parse(t, w); !reflect.DeepEqual(got, s) {
			t.Fatalf("%s: %+v, not %+v", w, got, s)
		}
		if Text(again(s)) != w {
			t.Fatalf("%s: %s", w, Text(again(s)))
		}
	}
}

// The numbers of groups and tables are written apart from those of modules, and from each other.
func TestP44Numbers(t *testing.T) {
	for _, k := range []api.HeapKind{api.HRec, api.HDef} {
		for _, s := range someSubs() {
			closed := Map(s, func(h api.Heap) api.Heap {
				if h.Kind == api.HIndex {
					h.Kind = k
				}
				return h
			})
			if got := parse(t, Text(closed)); !reflect.DeepEqual(got, closed) {
				t.Fatalf("%s: %+v, not %+v", Text(closed), got, closed)
			}
		}
	}
}

// Of what is not plain a writing may be any, but there is one, the same each time.
func TestP44OddTypes(t *testing.T) {
	for _, s := range manySubs() {
		if w := Text(s); w != Text(again(s)) {
			t.Errorf("%+v: %s", s, w)
		}
	}
	for _, v := range oddVals() {
		if w := ValText(v); w != ValText(v) {
			t.Errorf("%+v: %s", v, w)
		}
	}
}
