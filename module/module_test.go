package module

import (
	"math"
	"reflect"
	"slices"
	"strings"
	"testing"

	"geode/api"
)

// full is a module in which no field is zero, and each list has several things; it need not be one that may be.
func full() api.Module {
	val := func(n int) api.Val {
		return api.Val{Kind: api.ValKind(n), Null: true, Heap: api.Heap{Kind: api.HeapKind(n + 1), N: n + 2}}
	}
	lim := func(n uint64) api.Limits { return api.Limits{Wide: true, Min: n, Max: n + 1, HasMax: true} }
	row := func(n int) []api.Instr {
		return []api.Instr{{Op: api.Op(n), X: n + 1, Y: n + 2, U: uint64(n + 3), Heap: val(n).Heap, Heap2: val(n + 1).Heap, Null: true, Null2: true, Types: []api.Val{val(n), val(2)}, Labels: []int{n, 1}, Block: api.Block{Kind: 1, Val: val(n), N: n}, Catches: []api.Catch{{Kind: 1, Tag: n, Label: n}, {Kind: 2}}}, {Op: 5}}
	}
	sub := func(n int) api.Sub {
		field := api.Field{Store: api.Store{Pack: n, Val: val(n)}, Mut: true}
		return api.Sub{Final: true, Supers: []api.Heap{val(n).Heap, {Kind: 1}}, Comp: api.Comp{Kind: api.CompKind(n), Params: []api.Val{val(n), i32}, Results: []api.Val{val(n + 1), i64}, Fields: []api.Field{field, {}}}}
	}
	table := api.TableType{Elem: val(3), Limits: lim(4)}
	global := api.GlobalType{Val: val(5), Mut: true}
	return api.Module{
		Types:   [][]api.Sub{{sub(1), sub(2)}, {sub(3)}},
		Imports: []api.Import{{Module: "m", Name: "n", What: api.Extern{Kind: 1, N: 2, Table: table, Mem: lim(6), Global: global}}, {Name: "o"}},
		Funcs:   []api.Func{{Type: 1, Locals: []api.Run{{N: 2, Val: val(3)}, {N: 4, Val: i32}}, Body: row(5)}, {Type: 6}},
		Tables:  []api.Table{{Type: table, HasInit: true, Init: row(7)}, {Type: table}},
		Mems:    []api.Limits{lim(8), lim(9)},
		Tags:    []int{10, 11},
		Globals: []api.Global{{Type: global, Init: row(12)}, {Type: global}},
		Exports: []api.Export{{Name: "p", Kind: 1, N: 13}, {Name: "q", Kind: 2, N: 14}},
		Start:   15,
		Elems:   []api.Elem{{Type: val(16), Inits: [][]api.Instr{row(17), row(18)}, Mode: 1, Table: 19, Offset: row(20)}, {Type: val(21)}},
		Datas:   []api.Data{{Mode: 1, Mem: 22, Offset: row(23), Bytes: []byte{24, 25}}, {Mode: 2}},
	}
}

// changes changes each part of a thing in turn, in each way that there is, and tells of it; each is put back behind that.
func changes(v reflect.Value, tell func()) {
	set := func(x reflect.Value) {
		was := reflect.New(v.Type()).Elem()
		was.Set(v)
		v.Set(x)
		tell()
		v.Set(was)
	}
	switch v.Kind() {
	case reflect.Struct:
		for i := range v.NumField() {
			changes(v.Field(i), tell)
		}
	case reflect.Slice:
		for i := range v.Len() {
			changes(v.Index(i), tell)
		}
		if v.Len() > 0 {
			set(v.Slice(0, v.Len()-1))
			set(v.Slice(1, v.Len()))
		}
		longer := reflect.MakeSlice(v.Type(), v.Len()+1, v.Len()+1)
		reflect.Copy(longer, v)
		set(longer)
	case reflect.Bool:
		set(reflect.ValueOf(!v.Bool()).Convert(v.Type()))
	case reflect.String:
		for _, s := range []string{"", "z", v.String() + "z", "\xff", "\xed\xa0\x80", v.String() + "\xc3"} {
			set(reflect.ValueOf(s).Convert(v.Type()))
		}
	case reflect.Int:
		for _, n := range []int64{0, 1, 2, 3, 4, 5, 6, 9, 12, 13, 15, -1, -2, v.Int() + 1, 1<<32 - 1, 1 << 32, math.MaxInt64, math.MinInt64} {
			set(reflect.ValueOf(n).Convert(v.Type()))
		}
	case reflect.Uint64, reflect.Uint8:
		for _, n := range []uint64{0, 1, v.Uint() + 1, 1 << 32, math.MaxUint64} {
			set(reflect.ValueOf(n).Convert(v.Type()))
		}
	default:
		panic(v.Kind())
	}
}

func TestP82Same(t *testing.T) {
	m, other := full(), full()
	many := 0
	changes(reflect.ValueOf(&m).Elem(), func() {
		want := equal(m, other)
		if Same(m, other) != want || Same(other, m) != want {
			t.Fatalf("%+v: not %v", m, want)
		}
		if !want {
			many++
		}
	})
	if many < 1000 || !Same(m, other) || !Same(m, m) || !Same(api.Module{}, api.Module{}) || Same(api.Module{}, api.Module{Start: -1}) {
		t.Error(many)
	}
	none, empty := bare(false), bare(true)
	if !Same(none, empty) || !Same(empty, none) || !Same(api.Module{}, api.Module{Types: [][]api.Sub{}, Imports: []api.Import{}, Funcs: []api.Func{}, Tables: []api.Table{}, Mems: []api.Limits{}, Tags: []int{}, Globals: []api.Global{}, Exports: []api.Export{}, Elems: []api.Elem{}, Datas: []api.Data{}}) {
		t.Error("none and an empty list")
	}
}

// bare is a module in which each list of a thing is none, or an empty one.
func bare(empty bool) api.Module {
	if !empty {
		return api.Module{Types: [][]api.Sub{nil, {{Final: true, Comp: api.Comp{Kind: api.CFunc}}}}, Funcs: []api.Func{{}}, Tables: []api.Table{{Type: api.TableType{Elem: fnNull}}}, Globals: []api.Global{{Type: api.GlobalType{Val: i32}}}, Elems: []api.Elem{{Type: funcs}, {Type: funcs, Inits: [][]api.Instr{nil}}}, Datas: []api.Data{{}}}
	}
	sub := api.Sub{Final: true, Supers: []api.Heap{}, Comp: api.Comp{Kind: api.CFunc, Params: []api.Val{}, Results: []api.Val{}, Fields: []api.Field{}}}
	return api.Module{Types: [][]api.Sub{{}, {sub}}, Imports: []api.Import{}, Funcs: []api.Func{{Locals: []api.Run{}, Body: []api.Instr{}}}, Tables: []api.Table{{Type: api.TableType{Elem: fnNull}, Init: []api.Instr{}}}, Mems: []api.Limits{}, Globals: []api.Global{{Type: api.GlobalType{Val: i32}, Init: []api.Instr{}}}, Elems: []api.Elem{{Type: funcs, Inits: [][]api.Instr{}, Offset: []api.Instr{}}, {Type: funcs, Inits: [][]api.Instr{{}}}}, Datas: []api.Data{{Offset: []api.Instr{}, Bytes: []byte{}}}}
}

// may holds that a module may be, and that its bytes tell it.
func may(t *testing.T, m api.Module) {
	t.Helper()
	b, e := Put(m)
	if !May(m) || e != api.OK {
		t.Fatalf("%+v may not be: %d", m, e)
	}
	n, e, at := Read(b)
	if e != api.OK || at != 0 || !Same(n, m) || !equal(n, m) {
		t.Fatalf("%x: %d at %d: %+v, want %+v", b, e, at, n, m)
	}
}

// mayNot holds that a module may not be, and has no bytes.
func mayNot(t *testing.T, m api.Module) {
	t.Helper()
	if b, e := Put(m); May(m) || e != api.ErrArg || len(b) != 0 {
		t.Errorf("%+v may be: %d %x", m, e, b)
	}
}

func TestP82May(t *testing.T) {
	modules(func(m api.Module, _ string) { may(t, m) })
	may(t, bare(false))
	may(t, bare(true))
	may(t, api.Module{})
	may(t, api.Module{Start: -1})
	may(t, api.Module{Start: api.MaxIndex})
	l := api.Limits{Min: math.MaxUint64, HasMax: true}
	may(t, api.Module{Mems: []api.Limits{l}, Tables: []api.Table{{Type: api.TableType{Elem: ref5, Limits: l}, HasInit: true}}})
	for _, s := range []string{strings.Repeat("n", api.MaxName), strings.Repeat("n", api.MaxName+1), strings.Repeat("\u20ac", 3*api.MaxName)} {
		may(t, api.Module{Imports: []api.Import{{Module: s}, {Name: s}}, Exports: []api.Export{{Name: s}}})
	}
	// Whether more is there than is named, or names stand twice, is for those above.
	may(t, api.Module{Start: 9, Exports: []api.Export{{Name: "a", N: 7}, {Name: "a", N: 7}}, Tags: []int{5, 5}, Funcs: []api.Func{{Type: 3, Body: []api.Instr{{Op: 0x20, X: 99}, {Op: 0x10, X: 5}, {Op: 0x6a}}}}})
	run := func(n ...int) api.Module {
		var l []api.Run
		for _, x := range n {
			l = append(l, api.Run{N: x, Val: i64})
		}
		return api.Module{Funcs: []api.Func{{}, {Locals: l}}}
	}
	may(t, run(math.MaxUint32))
	may(t, run(0, math.MaxUint32, 0))
	may(t, run(1, math.MaxUint32-2, 1))
	may(t, run(1<<31, 1<<31-1))
	for _, l := range [][]int{{1 << 32}, {1 << 31, 1 << 31}, {math.MaxUint32, 1}, {1, math.MaxUint32}, {math.MaxUint32 - 1, 1, 1}, {math.MaxUint32, math.MaxUint32}, {-1}, {5, -1}, {-1, 1 << 32}, {math.MaxInt}, {math.MaxInt, math.MaxInt, 2}, {math.MinInt}, {math.MaxInt, math.MinInt, 1}} {
		mayNot(t, run(l...))
	}
	two := run(math.MaxUint32)
	two.Funcs[0] = two.Funcs[1]
	may(t, two)
}

func oddIndexes() []int { return []int{math.MinInt, -1 << 32, -1, 1 << 32, math.MaxInt} }

func oddVals() []api.Val {
	l := []api.Val{{}, {Kind: api.VBot}, {Kind: -1}, {Kind: 5}, {Kind: api.VI32, Null: true}, {Kind: api.VI64, Heap: api.Heap{Kind: api.HAny}}, {Kind: api.VRef}, {Kind: api.VRef, Heap: api.Heap{Kind: api.HRec}}, {Kind: api.VRef, Heap: api.Heap{Kind: api.HDef, N: 1}}, {Kind: api.VRef, Null: true, Heap: api.Heap{Kind: api.HAny, N: 1}}, {Kind: api.VRef, Heap: api.Heap{Kind: 16}}}
	for _, n := range oddIndexes() {
		l = append(l, api.Val{Kind: api.VRef, Heap: api.Heap{Kind: api.HIndex, N: n}})
	}
	return l
}

func oddRefs() []api.Val { return append(oddVals(), i32, i64) }

func oddRows() [][]api.Instr {
	return [][]api.Instr{
		{{Op: 0x0b}}, {{Op: 0x02}}, {{Op: 0x05}}, {{Op: 0x02}, {Op: 0x05}, {Op: 0x0b}}, {{Op: 0x02}, {Op: 0x0b}, {Op: 0x0b}}, {{Op: 0x04}, {Op: 0x05}, {Op: 0x05}, {Op: 0x0b}},
		{{Op: 0x06}}, {{Op: -1}}, {{Op: 0x43}}, {{Op: 0xfd}}, {{Op: 0x01, X: 1}}, {{Op: 0x41, U: 1 << 32}}, {{Op: 0x01}, {Op: 0x20, X: -1}, {Op: 0x01}}, {{Op: 0xd2, X: 1 << 32}}, {{Op: 0xd2, X: 3, Y: 1}}, {{Op: 0xd2, X: 3, U: 1}}, {{Op: 0xd0}}, {{Op: 0x1c, Types: []api.Val{{}}}},
	}
}

func oddNames() []string {
	return []string{"\x80", "a\xff", "\xc3", "\xed\xa0\x80", "\xc0\x80", "\xf4\x90\x80\x80", strings.Repeat("n", api.MaxName) + "\xe2\x82"}
}

// oddLimits have a Max that is not one's.
func oddLimits() []api.Limits {
	return []api.Limits{{Max: 1}, {Min: 1, Max: 2, Wide: true}, {Max: math.MaxUint64}}
}

func oddSubs() []api.Sub {
	l := []api.Sub{{}, {Comp: api.Comp{Kind: 4}}, {Comp: api.Comp{Kind: -1}}, {Comp: api.Comp{Kind: api.CArray}}, {Comp: api.Comp{Kind: api.CArray, Fields: make([]api.Field, 2)}}, {Comp: api.Comp{Kind: api.CFunc, Fields: []api.Field{{Store: api.Store{Val: i32}}}}}, {Comp: api.Comp{Kind: api.CStruct, Params: []api.Val{i32}}}, {Supers: []api.Heap{{Kind: api.HAny}}, Comp: api.Comp{Kind: api.CFunc}}, {Comp: api.Comp{Kind: api.CStruct, Fields: []api.Field{{Store: api.Store{Pack: 32, Val: i32}}}}}, {Comp: api.Comp{Kind: api.CStruct, Fields: []api.Field{{Store: api.Store{Pack: 8, Val: i64}}}}}}
	for _, v := range oddVals() {
		l = append(l, api.Sub{Comp: api.Comp{Kind: api.CFunc, Params: []api.Val{v}}}, api.Sub{Comp: api.Comp{Kind: api.CFunc, Results: []api.Val{i32, v}}}, api.Sub{Comp: api.Comp{Kind: api.CArray, Fields: []api.Field{{Store: api.Store{Val: v}}}}})
	}
	for _, n := range oddIndexes() {
		l = append(l, api.Sub{Supers: []api.Heap{{Kind: api.HIndex, N: n}}, Comp: api.Comp{Kind: api.CFunc}})
	}
	return l
}

// oddExterns have what may not be, or what their kind has not.
func oddExterns() []api.Extern {
	table, global := api.TableType{Elem: ref5}, api.GlobalType{Val: i32}
	var l []api.Extern
	for _, x := range []api.Extern{{}, {Kind: api.ExTable, Table: table}, {Kind: api.ExMem}, {Kind: api.ExGlobal, Global: global}, {Kind: api.ExTag}} {
		for _, more := range []func(){
			func() { x.N = 1 }, func() { x.N = -1 }, func() { x.Table = table }, func() { x.Table.Limits.Wide = true }, func() { x.Table.Limits.Min = 1 }, func() { x.Table.Limits.HasMax = true },
			func() { x.Mem.Min = 1 }, func() { x.Mem.HasMax = true }, func() { x.Mem.Wide = true }, func() { x.Global = global }, func() { x.Global.Mut = true }, func() { x.Global.Val.Null = true },
		} {
			was := x
			more()
			// What its kind has is not odd.
			own := was
			own.N, own.Table, own.Mem, own.Global = [5]int{x.N, 0, 0, 0, x.N}[x.Kind], [5]api.TableType{1: x.Table}[x.Kind], [5]api.Limits{2: x.Mem}[x.Kind], [5]api.GlobalType{3: x.Global}[x.Kind]
			if x != own {
				l = append(l, x)
			}
			x = was
		}
	}
	for _, k := range []api.ExKind{-1, 5, 256, math.MaxInt, math.MinInt} {
		l = append(l, api.Extern{Kind: k}, api.Extern{Kind: k, N: 1}, api.Extern{Kind: k, Mem: api.Limits{Min: 1}})
	}
	for _, n := range oddIndexes() {
		l = append(l, api.Extern{N: n}, api.Extern{Kind: api.ExTag, N: n})
	}
	for _, v := range oddRefs() {
		l = append(l, api.Extern{Kind: api.ExTable, Table: api.TableType{Elem: v}})
	}
	for _, v := range oddVals() {
		l = append(l, api.Extern{Kind: api.ExGlobal, Global: api.GlobalType{Val: v}})
	}
	for _, x := range oddLimits() {
		l = append(l, api.Extern{Kind: api.ExMem, Mem: x}, api.Extern{Kind: api.ExTable, Table: api.TableType{Elem: ref5, Limits: x}})
	}
	return l
}

func oddFuncs() []api.Func {
	var l []api.Func
	for _, n := range oddIndexes() {
		l = append(l, api.Func{Type: n}, api.Func{Locals: []api.Run{{N: n, Val: i32}}})
	}
	for _, v := range oddVals() {
		l = append(l, api.Func{Locals: []api.Run{{N: 1, Val: i32}, {Val: v}}}, api.Func{Locals: []api.Run{{N: 2, Val: v}}})
	}
	for _, r := range oddRows() {
		l = append(l, api.Func{Body: r})
	}
	return l
}

func oddTables() []api.Table {
	own := api.TableType{Elem: fnNull}
	l := []api.Table{{Type: own, Init: []api.Instr{{Op: 0x01}}}, {Type: own, Init: []api.Instr{{Op: 0xd0, Heap: api.Heap{Kind: api.HFunc}}}}}
	for _, v := range oddRefs() {
		l = append(l, api.Table{Type: api.TableType{Elem: v}}, api.Table{Type: api.TableType{Elem: v}, HasInit: true})
	}
	for _, x := range oddLimits() {
		l = append(l, api.Table{Type: api.TableType{Elem: fnNull, Limits: x}}, api.Table{Type: api.TableType{Elem: ref5, Limits: x}, HasInit: true})
	}
	for _, r := range oddRows() {
		l = append(l, api.Table{Type: own, Init: r}, api.Table{Type: own, HasInit: true, Init: r})
	}
	return l
}

func oddGlobals() []api.Global {
	var l []api.Global
	for _, v := range oddVals() {
		l = append(l, api.Global{Type: api.GlobalType{Val: v}}, api.Global{Type: api.GlobalType{Val: v, Mut: true}})
	}
	for _, r := range oddRows() {
		l = append(l, api.Global{Type: api.GlobalType{Val: i32}, Init: r})
	}
	return l
}

func oddElems() []api.Elem {
	nop := []api.Instr{{Op: 0x01}}
	l := []api.Elem{{Type: funcs, Table: 1}, {Type: funcs, Offset: nop}, {Type: fnNull, Mode: api.SegDeclared, Table: 1}, {Type: fnNull, Mode: api.SegDeclared, Offset: nop}, {Type: funcs, Table: -1}, {Type: funcs, Mode: 3}, {Type: funcs, Mode: -1}, {Type: funcs, Mode: math.MaxInt}, {Type: funcs, Mode: math.MinInt}, {Type: funcs, Mode: 257, Offset: nop}}
	for _, n := range oddIndexes() {
		l = append(l, api.Elem{Type: funcs, Mode: api.SegActive, Table: n}, api.Elem{Type: ref5, Table: n})
	}
	for _, v := range oddRefs() {
		for mode := range api.SegMode(3) {
			l = append(l, api.Elem{Type: v, Mode: mode})
		}
	}
	for _, r := range oddRows() {
		for mode := range api.SegMode(3) {
			l = append(l, api.Elem{Type: funcs, Mode: mode, Inits: [][]api.Instr{r}}, api.Elem{Type: fnNull, Mode: mode, Inits: [][]api.Instr{nil, r, nil}}, api.Elem{Type: funcs, Mode: mode, Offset: r})
		}
	}
	return l
}

func oddDatas() []api.Data {
	nop := []api.Instr{{Op: 0x01}}
	l := []api.Data{{Mem: 1}, {Mem: -1}, {Offset: nop}, {Mem: 1, Offset: nop}, {Mode: api.SegDeclared}, {Mode: api.SegDeclared, Offset: nop}, {Mode: 3}, {Mode: -1}, {Mode: 257}, {Mode: math.MaxInt}, {Mode: math.MinInt}}
	for _, n := range oddIndexes() {
		l = append(l, api.Data{Mode: api.SegActive, Mem: n, Offset: nop}, api.Data{Mem: n})
	}
	for _, r := range oddRows() {
		l = append(l, api.Data{Mode: api.SegActive, Offset: r}, api.Data{Offset: r})
	}
	return l
}

// odds tells modules of which one thing may not be.
func odds(tell func(api.Module)) {
	own := []api.Sub{{Comp: api.Comp{Kind: api.CFunc}}}
	for _, x := range oddSubs() {
		tell(api.Module{Types: [][]api.Sub{{x}}})
		tell(api.Module{Types: [][]api.Sub{own, {own[0], x}, nil}})
	}
	for _, x := range oddExterns() {
		tell(api.Module{Imports: []api.Import{{What: x}}})
		tell(api.Module{Imports: []api.Import{{Name: "a"}, {Module: "b", What: x}, {}}})
	}
	for _, s := range oddNames() {
		tell(api.Module{Imports: []api.Import{{Module: s}}})
		tell(api.Module{Imports: []api.Import{{}, {Name: s}}})
		tell(api.Module{Exports: []api.Export{{Name: s}}})
	}
	for _, x := range oddFuncs() {
		tell(api.Module{Funcs: []api.Func{{}, x}})
	}
	for _, x := range oddTables() {
		tell(api.Module{Tables: []api.Table{x, {Type: api.TableType{Elem: ref5}}}})
	}
	for _, x := range oddLimits() {
		tell(api.Module{Mems: []api.Limits{{}, x}})
	}
	for _, n := range oddIndexes() {
		tell(api.Module{Tags: []int{0, n}})
		tell(api.Module{Exports: []api.Export{{N: n}}})
		if n != -1 {
			tell(api.Module{Start: n})
		}
	}
	tell(api.Module{Start: -2})
	for _, k := range []api.ExKind{-1, 5, 256, math.MaxInt, math.MinInt} {
		tell(api.Module{Exports: []api.Export{{Name: "a"}, {Name: "b", Kind: k}}})
	}
	for _, x := range oddGlobals() {
		tell(api.Module{Globals: []api.Global{{Type: api.GlobalType{Val: i32}}, x}})
	}
	for _, x := range oddElems() {
		tell(api.Module{Elems: []api.Elem{{Type: fnNull}, x}})
	}
	for _, x := range oddDatas() {
		tell(api.Module{Datas: []api.Data{{}, x}})
	}
}

func TestP82MayNot(t *testing.T) {
	odds(func(m api.Module) { mayNot(t, m) })
	mayNot(t, full())
}

// Whatever is changed in a module, it may be just if bytes tell it.
func TestP82MayChanged(t *testing.T) {
	for _, s := range wholes() {
		m, _, _ := Read([]byte(s))
		some := [2]int{}
		changes(reflect.ValueOf(&m).Elem(), func() {
			if May(m) {
				some[0]++
				may(t, m)
				return
			}
			some[1]++
			mayNot(t, m)
			// What is left where it is cut off at what may not be is not the same.
			if n, e, _ := Read(loose(m)); e == api.OK && equal(n, m) {
				t.Fatalf("%+v may not be, but is told", m)
			}
		})
		if some[0] < 50 || some[1] < 50 {
			t.Error(some)
		}
	}
}

// loose are bytes of a module in which nothing is looked at, so far as there are any.
func loose(m api.Module) []byte {
	out := []byte(first)
	for _, number := range []byte(rising) {
		c := looseContent(m, number)
		if len(c) > 0 {
			out = append(out, sec(number, string(c))...)
		}
	}
	return out
}

// looseContent is none also where there is no telling what stands in a section.
func looseContent(m api.Module, number byte) (c []byte) {
	defer func() { _ = recover() }()
	return putContent(m, number)
}

// What is handed in stays, and what is told is new.
func TestP82Apart(t *testing.T) {
	for _, s := range wholes() {
		m, _, _ := Read([]byte(s))
		n, _, _ := Read([]byte(s))
		a, _ := Put(m)
		b, _ := Put(m)
		if !May(m) || !Same(m, n) || !slices.Equal(a, b) || !equal(m, n) {
			t.Fatalf("%x", s)
		}
		apart(t, a, b, m, n)
		clear(a)
		if c, _ := Put(m); !slices.Equal(b, c) {
			t.Errorf("%x: kept", s)
		}
	}
}
