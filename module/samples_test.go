package module

import (
	"encoding/hex"
	"reflect"
	"slices"
	"strings"
	"testing"

	"geode/api"
)

const first = "\x00asm\x01\x00\x00\x00"

// rising are the sections' numbers in the order in which they stand.
const rising = "\x01\x02\x03\x04\x05\x0d\x06\x07\x08\x09\x0c\x0a\x0b"

var (
	i32     = api.Val{Kind: api.VI32}
	i64     = api.Val{Kind: api.VI64}
	anyNull = api.Val{Kind: api.VRef, Null: true, Heap: api.Heap{Kind: api.HAny}}
	funcs   = api.Val{Kind: api.VRef, Heap: api.Heap{Kind: api.HFunc}}
	fnNull  = api.Val{Kind: api.VRef, Null: true, Heap: api.Heap{Kind: api.HFunc}}
	ref5    = api.Val{Kind: api.VRef, Heap: api.Heap{Kind: api.HIndex, N: 5}}
)

// raw are the bytes that are written in base 16, blanks aside.
func raw(s string) string {
	b, err := hex.DecodeString(strings.ReplaceAll(s, " ", ""))
	if err != nil {
		panic(s)
	}
	return string(b)
}

// num is an unsigned number's shortest bytes.
func num(n int) string {
	var b []byte
	for ; n > 127; n >>= 7 {
		b = append(b, byte(n&127|128))
	}
	return string(append(b, byte(n)))
}

// sec is a section.
func sec(number byte, content string) string {
	return string(number) + num(len(content)) + content
}

// item is a thing of a section, in shortest bytes, and what it adds to a module.
type item struct {
	number  byte
	b, code string // code: of a function what section 10 has of it
	needs   bool   // whether the code needs section 12
	add     func(*api.Module)
}

// made is a module of some things, and its shortest bytes.
func made(l []item) (api.Module, string) {
	m := api.Module{Start: -1}
	var many [14]int
	var content [14]string
	needs := false
	for _, i := range l {
		i.add(&m)
		many[i.number]++
		content[i.number] += i.b
		if i.number == 3 {
			many[10]++
			content[10] += num(len(i.code)) + i.code
		}
		needs = needs || i.needs
	}
	b := first
	for _, number := range []byte(rising) {
		switch {
		case number == 12 && needs:
			b += sec(number, num(many[11]))
		case number == 8 && many[8] > 0:
			b += sec(number, content[8])
		case many[number] > 0:
			b += sec(number, num(many[number])+content[number])
		}
	}
	return m, b
}

// The parts of things, by their shortest bytes in base 16.

func rows() map[string][]api.Instr {
	return map[string][]api.Instr{
		"0b": nil, "41010b": {{Op: 0x41, U: 1}}, "427f0b": {{Op: 0x42, U: 1<<64 - 1}}, "d2030b": {{Op: 0xd2, X: 3}}, "d203d2040b": {{Op: 0xd2, X: 3}, {Op: 0xd2, X: 4}}, "d0700b": {{Op: 0xd0, Heap: api.Heap{Kind: api.HFunc}}},
		"02400b0b": {{Op: 0x02}, {Op: 0x0b}}, "04403f00053f000b0b": {{Op: 0x04}, {Op: 0x3f}, {Op: 0x05}, {Op: 0x3f}, {Op: 0x0b}}, "2300fb0705fb1c0b": {{Op: 0x23}, {Op: 0xfb07, X: 5}, {Op: 0xfb1c}}, "200120020b": {{Op: 0x20, X: 1}, {Op: 0x20, X: 2}},
		"0e0200010228420110 1c017f0b": {{Op: 0x0e, Labels: []int{0, 1}, X: 2}, {Op: 0x28, X: 2, Y: 1, U: 16}, {Op: 0x1c, Types: []api.Val{i32}}}, "1f40010104050b0b": {{Op: 0x1f, Catches: []api.Catch{{Kind: 1, Tag: 4, Label: 5}}}, {Op: 0x0b}},
	}
}

// dataRows are those in which data are named.
func dataRows() map[string][]api.Instr {
	return map[string][]api.Instr{
		"fc0800000b": {{Op: 0xfc08}}, "fc09000b": {{Op: 0xfc09}}, "fb0905800 10b": {{Op: 0xfb09, X: 5, Y: 128}}, "fb1200000b": {{Op: 0xfb12}},
		"0240fc09030b0b": {{Op: 0x02}, {Op: 0xfc09, X: 3}, {Op: 0x0b}},
	}
}

func vals() map[string]api.Val {
	return map[string]api.Val{
		"7f": i32, "7e": i64, "6e": anyNull, "646e": {Kind: api.VRef, Heap: api.Heap{Kind: api.HAny}}, "70": fnNull, "6470": funcs, "6405": ref5,
		"6305": {Kind: api.VRef, Null: true, Heap: api.Heap{Kind: api.HIndex, N: 5}}, "64ffffffff0f": {Kind: api.VRef, Heap: api.Heap{Kind: api.HIndex, N: api.MaxIndex}}, "74": {Kind: api.VRef, Null: true, Heap: api.Heap{Kind: api.HNoExn}},
	}
}

func refs() map[string]api.Val {
	l := vals()
	delete(l, "7f")
	delete(l, "7e")
	return l
}

func limitsOf() map[string]api.Limits {
	return map[string]api.Limits{
		"0000": {}, "0007": {Min: 7}, "010102": {Min: 1, HasMax: true, Max: 2}, "010000": {HasMax: true}, "010501": {Min: 5, HasMax: true, Max: 1}, "0405": {Wide: true, Min: 5}, "0400": {Wide: true}, "05018001": {Wide: true, Min: 1, HasMax: true, Max: 128},
		"00ffffffffffffffffff01": {Min: 1<<64 - 1}, "0100ffffffffffffffffff01": {HasMax: true, Max: 1<<64 - 1}, "05ffffffffffffffffff0100": {Wide: true, Min: 1<<64 - 1, HasMax: true},
	}
}

func tableTypes() map[string]api.TableType {
	out := map[string]api.TableType{}
	for v, val := range refs() {
		out[v+"0102ff01"] = api.TableType{Elem: val, Limits: api.Limits{Min: 2, HasMax: true, Max: 255}}
	}
	for l, lim := range limitsOf() {
		out["70"+l] = api.TableType{Elem: fnNull, Limits: lim}
	}
	return out
}

func globalTypes() map[string]api.GlobalType {
	out := map[string]api.GlobalType{}
	for v, val := range vals() {
		out[v+"00"] = api.GlobalType{Val: val}
		out[v+"01"] = api.GlobalType{Val: val, Mut: true}
	}
	return out
}

func indexes() map[string]int {
	return map[string]int{"00": 0, "05": 5, "7f": 127, "8001": 128, "ffffffff0f": api.MaxIndex}
}

func names() map[string]string {
	return map[string]string{"00": "", "0161": "a", "03e282ac": "\u20ac", "05612062c3a9": "a b\u00e9", "04f09f9880": "\U0001f600"}
}

func groups() map[string][]api.Sub {
	return map[string][]api.Sub{
		"4e00": {}, "600000": {{Final: true, Comp: api.Comp{Kind: api.CFunc}}}, "60017f017e": {{Final: true, Comp: api.Comp{Kind: api.CFunc, Params: []api.Val{i32}, Results: []api.Val{i64}}}}, "50005e7801": {{Comp: api.Comp{Kind: api.CArray, Fields: []api.Field{{Store: api.Store{Pack: 8, Val: i32}, Mut: true}}}}},
		"4e0250005f004f01005f01780 1": {{Comp: api.Comp{Kind: api.CStruct}}, {Final: true, Supers: []api.Heap{{Kind: api.HIndex}}, Comp: api.Comp{Kind: api.CStruct, Fields: []api.Field{{Store: api.Store{Pack: 8, Val: i32}, Mut: true}}}}},
		"50028001075f0277006e01":      {{Supers: []api.Heap{{Kind: api.HIndex, N: 128}, {Kind: api.HIndex, N: 7}}, Comp: api.Comp{Kind: api.CStruct, Fields: []api.Field{{Store: api.Store{Pack: 16, Val: i32}}, {Store: api.Store{Val: anyNull}, Mut: true}}}}},
	}
}

func externs() map[string]api.Extern {
	out := map[string]api.Extern{}
	for b, n := range indexes() {
		out["00"+b], out["0400"+b] = api.Extern{Kind: api.ExFunc, N: n}, api.Extern{Kind: api.ExTag, N: n}
	}
	for b, x := range tableTypes() {
		out["01"+b] = api.Extern{Kind: api.ExTable, Table: x}
	}
	for b, x := range limitsOf() {
		out["02"+b] = api.Extern{Kind: api.ExMem, Mem: x}
	}
	for b, x := range globalTypes() {
		out["03"+b] = api.Extern{Kind: api.ExGlobal, Global: x}
	}
	return out
}

func runs() map[string][]api.Run {
	return map[string][]api.Run{
		"00": nil, "01057f": {{N: 5, Val: i32}}, "0300 7e 8001 6405 01 6e": {{Val: i64}, {N: 128, Val: ref5}, {N: 1, Val: anyNull}}, "01ffffffff0f7f": {{N: 1<<32 - 1, Val: i32}}, "03feffffff0f7f017f007e": {{N: 1<<32 - 2, Val: i32}, {N: 1, Val: i32}, {Val: i64}},
	}
}

func elems() map[string]api.Elem {
	three := [][]api.Instr{{{Op: 0xd2, X: 3}}, {{Op: 0xd2, X: 128}}, {{Op: 0xd2}}}
	at := []api.Instr{{Op: 0x41, U: 1}}
	mixed := [][]api.Instr{{{Op: 0xd0, Heap: api.Heap{Kind: api.HFunc}}}, {}, {{Op: 0xd2, X: 3}, {Op: 0x01}}}
	out := map[string]api.Elem{
		"00 41010b 03 03 8001 00": {Type: funcs, Inits: three, Mode: api.SegActive, Offset: at}, "00 0b 00": {Type: funcs, Mode: api.SegActive}, "01 00 03 03 8001 00": {Type: funcs, Inits: three}, "01 00 00": {Type: funcs},
		"02 02 41010b 00 03 03 8001 00": {Type: funcs, Inits: three, Mode: api.SegActive, Table: 2, Offset: at}, "02 ffffffff0f 0b 00 00": {Type: funcs, Mode: api.SegActive, Table: api.MaxIndex}, "03 00 03 03 8001 00": {Type: funcs, Inits: three, Mode: api.SegDeclared}, "03 00 00": {Type: funcs, Mode: api.SegDeclared},
		"04 41010b 03 d2030b d280010b d2000b": {Type: fnNull, Inits: three, Mode: api.SegActive, Offset: at}, "04 0b 00": {Type: fnNull, Mode: api.SegActive}, "04 0b 03 d0700b 0b d203010b": {Type: fnNull, Inits: mixed, Mode: api.SegActive},
		"06 8001 41010b 70 01 0b": {Type: fnNull, Inits: [][]api.Instr{{}}, Mode: api.SegActive, Table: 128, Offset: at}, "06 00 0b 6470 03 d0700b 0b d203010b": {Type: funcs, Inits: mixed, Mode: api.SegActive}, "06 03 0b 6470 01 0b": {Type: funcs, Inits: [][]api.Instr{nil}, Mode: api.SegActive, Table: 3}, "05 6470 03 d0700b 0b d203010b": {Type: funcs, Inits: mixed}, "07 6470 03 d0700b 0b d203010b": {Type: funcs, Inits: mixed, Mode: api.SegDeclared},
		"05 6470 01 d203d2040b": {Type: funcs, Inits: [][]api.Instr{{{Op: 0xd2, X: 3}, {Op: 0xd2, X: 4}}}}, "05 6470 02 d2030b 410 00b": {Type: funcs, Inits: [][]api.Instr{{{Op: 0xd2, X: 3}}, {{Op: 0x41}}}},
	}
	for v, val := range refs() {
		if val != funcs {
			out["05"+v+"03 d2030b d280010b d2000b"], out["07"+v+"01 0b"] = api.Elem{Type: val, Inits: three}, api.Elem{Type: val, Inits: [][]api.Instr{nil}, Mode: api.SegDeclared}
			out["05"+v+"00"], out["06 01 0b"+v+"00"] = api.Elem{Type: val}, api.Elem{Type: val, Mode: api.SegActive, Table: 1}
			if val != fnNull {
				out["06 00 41010b"+v+"03 d2030b d280010b d2000b"] = api.Elem{Type: val, Inits: three, Mode: api.SegActive, Offset: at}
			}
		}
	}
	for b, l := range rows() {
		out["04"+b+"02 0b"+b] = api.Elem{Type: fnNull, Inits: [][]api.Instr{nil, l}, Mode: api.SegActive, Offset: l}
	}
	return out
}

func datas() map[string]api.Data {
	out := map[string]api.Data{"01 00": {}, "01 03 616200": {Bytes: []byte("ab\x00")}}
	for b, l := range rows() {
		out["00"+b+"00"], out["00"+b+"02ff0b"] = api.Data{Mode: api.SegActive, Offset: l}, api.Data{Mode: api.SegActive, Offset: l, Bytes: []byte{255, 11}}
		out["02 01"+b+"01 05"], out["02 ffffffff0f"+b+"00"] = api.Data{Mode: api.SegActive, Mem: 1, Offset: l, Bytes: []byte{5}}, api.Data{Mode: api.SegActive, Mem: api.MaxIndex, Offset: l}
	}
	return out
}

// each tells what a map has in the order of its keys.
func each[T any](m map[string]T, tell func(b string, x T)) {
	var keys []string
	for k := range m {
		keys = append(keys, k)
	}
	slices.Sort(keys)
	for _, k := range keys {
		tell(raw(k), m[k])
	}
}

// samples are things of all sections.
func samples() []item {
	var l []item
	add := func(number byte, b string, f func(*api.Module)) {
		l = append(l, item{number: number, b: b, add: f})
	}
	each(groups(), func(b string, x []api.Sub) { add(1, b, func(m *api.Module) { m.Types = append(m.Types, x) }) })
	each(externs(), func(b string, x api.Extern) {
		add(2, "\x01m\x00"+b, func(m *api.Module) { m.Imports = append(m.Imports, api.Import{Module: "m", What: x}) })
	})
	each(names(), func(b string, s string) {
		add(2, b+"\x01n\x00\x00", func(m *api.Module) { m.Imports = append(m.Imports, api.Import{Module: s, Name: "n"}) })
		add(2, "\x00"+b+"\x04\x00\x01", func(m *api.Module) {
			m.Imports = append(m.Imports, api.Import{Name: s, What: api.Extern{Kind: api.ExTag, N: 1}})
		})
		for k := range 5 {
			each(indexes(), func(n string, x int) {
				add(7, b+string(rune(k))+n, func(m *api.Module) {
					m.Exports = append(m.Exports, api.Export{Name: s, Kind: api.ExKind(k), N: x})
				})
			})
		}
	})
	l = append(l, funcSamples()...)
	each(tableTypes(), func(b string, x api.TableType) {
		add(4, b, func(m *api.Module) { m.Tables = append(m.Tables, api.Table{Type: x}) })
		each(rows(), func(r string, row []api.Instr) {
			add(4, "\x40\x00"+b+r, func(m *api.Module) { m.Tables = append(m.Tables, api.Table{Type: x, HasInit: true, Init: row}) })
		})
	})
	each(limitsOf(), func(b string, x api.Limits) { add(5, b, func(m *api.Module) { m.Mems = append(m.Mems, x) }) })
	each(globalTypes(), func(b string, x api.GlobalType) {
		each(rows(), func(r string, row []api.Instr) {
			add(6, b+r, func(m *api.Module) { m.Globals = append(m.Globals, api.Global{Type: x, Init: row}) })
		})
	})
	each(indexes(), func(b string, n int) {
		add(8, b, func(m *api.Module) { m.Start = n })
		add(13, "\x00"+b, func(m *api.Module) { m.Tags = append(m.Tags, n) })
	})
	each(elems(), func(b string, x api.Elem) { add(9, b, func(m *api.Module) { m.Elems = append(m.Elems, x) }) })
	each(datas(), func(b string, x api.Data) { add(11, b, func(m *api.Module) { m.Datas = append(m.Datas, x) }) })
	// Only a code needs section 12, wherever else data are named.
	each(dataRows(), func(b string, r []api.Instr) {
		add(6, "\x7f\x00"+b, func(m *api.Module) {
			m.Globals = append(m.Globals, api.Global{Type: api.GlobalType{Val: i32}, Init: r})
		})
		add(11, "\x00"+b+"\x00", func(m *api.Module) { m.Datas = append(m.Datas, api.Data{Mode: api.SegActive, Offset: r}) })
	})
	return l
}

func funcSamples() []item {
	var l []item
	add := func(t, code string, needs bool, f api.Func) {
		l = append(l, item{number: 3, b: t, code: code, needs: needs, add: func(m *api.Module) { m.Funcs = append(m.Funcs, f) }})
	}
	each(indexes(), func(b string, n int) { add(b, "\x00\x0b", false, api.Func{Type: n}) })
	each(runs(), func(b string, r []api.Run) {
		each(rows(), func(c string, row []api.Instr) { add("\x01", b+c, false, api.Func{Type: 1, Locals: r, Body: row}) })
	})
	each(dataRows(), func(c string, row []api.Instr) { add("\x00", "\x00"+c, true, api.Func{Body: row}) })
	return l
}

// modules tells modules of one thing, of all things of a section, and of many things of many sections, with their shortest bytes.
func modules(tell func(m api.Module, b string)) {
	tell(made(nil))
	all := samples()
	of := map[byte][]item{}
	for _, i := range all {
		tell(made([]item{i}))
		of[i.number] = append(of[i.number], i)
	}
	for number, l := range of {
		if number != 8 {
			tell(made(l))
		}
	}
	for step := range 300 {
		tell(made(mix(of, step)))
	}
}

// mix picks some things of each section, by steps that differ from one to the next.
func mix(of map[byte][]item, step int) []item {
	var l []item
	for _, number := range []byte(rising) {
		from := of[number]
		many := (step*31 + int(number)*7) % 4
		if number == 8 {
			many %= 2
		}
		for k := range many {
			if len(from) > 0 {
				l = append(l, from[(step*7919+k*104729+int(number)*13)%len(from)])
			}
		}
	}
	return l
}

// alike says whether all of two things is the same; none and an empty list are.
func alike(a, b reflect.Value) bool {
	switch a.Kind() {
	case reflect.Struct:
		for i := range a.NumField() {
			if !alike(a.Field(i), b.Field(i)) {
				return false
			}
		}
		return true
	case reflect.Slice:
		if a.Len() != b.Len() {
			return false
		}
		for i := range a.Len() {
			if !alike(a.Index(i), b.Index(i)) {
				return false
			}
		}
		return true
	}
	return a.Equal(b)
}

func equal(a, b api.Module) bool { return alike(reflect.ValueOf(a), reflect.ValueOf(b)) }

// spans are where the lists of a thing lie, with all that they have room for.
func spans(v reflect.Value, tell func(from, to uintptr)) {
	switch v.Kind() {
	case reflect.Struct:
		for i := range v.NumField() {
			spans(v.Field(i), tell)
		}
	case reflect.Slice:
		if v.Cap() > 0 {
			tell(v.Pointer(), v.Pointer()+uintptr(v.Cap())*v.Type().Elem().Size())
		}
		for i := range v.Len() {
			spans(v.Index(i), tell)
		}
	}
}

// apart holds that no two lists of these things share anything.
func apart(t *testing.T, things ...any) {
	t.Helper()
	var all [][2]uintptr
	for _, x := range things {
		spans(reflect.ValueOf(x), func(from, to uintptr) { all = append(all, [2]uintptr{from, to}) })
	}
	slices.SortFunc(all, func(a, b [2]uintptr) int { return int(a[0]) - int(b[0]) })
	for i := 1; i < len(all); i++ {
		if all[i][0] < all[i-1][1] {
			t.Fatal("two lists share something")
		}
	}
}
