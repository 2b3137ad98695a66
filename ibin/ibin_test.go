package ibin

import (
	"encoding/hex"
	"math"
	"slices"
	"strings"
	"testing"

	"geode/api"
	"geode/ops"
)

var (
	i32  = api.Val{Kind: api.VI32}
	i64  = api.Val{Kind: api.VI64}
	hAny = api.Heap{Kind: api.HAny}
)

// asked are the fields that the chapter's shapes ask for; ShNone asks for none.
var asked = map[api.Shape]string{
	api.ShIndex: "X", api.ShTwo: "X Y", api.ShLabel: "X", api.ShTable: "Labels X", api.ShMem: "X Y U", api.ShI32: "U", api.ShI64: "U",
	api.ShHeap: "Heap", api.ShTypes: "Types", api.ShBlock: "Block", api.ShTry: "Block Catches", api.ShCast: "X Null Heap Null2 Heap2",
}

func raw(s string) string {
	b, err := hex.DecodeString(s)
	if err != nil {
		panic(err)
	}
	return string(b)
}

// The things that instructions have, by their shortest bytes.

func indexes() map[string]int {
	return map[string]int{"00": 0, "01": 1, "3f": 63, "40": 64, "7f": 127, "8001": 128, "ff7f": 16383, "ffffffff0f": api.MaxIndex}
}

func heaps() map[string]api.Heap {
	out := map[string]api.Heap{"00": {Kind: api.HIndex}, "05": {Kind: api.HIndex, N: 5}, "c000": {Kind: api.HIndex, N: 64}, "ffffffff0f": {Kind: api.HIndex, N: api.MaxIndex}}
	for i, k := range []api.HeapKind{api.HExn, api.HArray, api.HStruct, api.HI31, api.HEq, api.HAny, api.HExtern, api.HFunc, api.HNone, api.HNoExtern, api.HNoFunc, api.HNoExn} {
		out[hex.EncodeToString([]byte{byte(0x69 + i)})] = api.Heap{Kind: k}
	}
	return out
}

func vals() map[string]api.Val {
	out := map[string]api.Val{"7f": i32, "7e": i64}
	for b, h := range heaps() {
		out["64"+b] = api.Val{Kind: api.VRef, Heap: h}
		if h.Kind == api.HIndex {
			b = "63" + b
		}
		out[b] = api.Val{Kind: api.VRef, Null: true, Heap: h}
	}
	return out
}

func blocks() map[string]api.Block {
	out := map[string]api.Block{"40": {}, "00": {Kind: 2}, "03": {Kind: 2, N: 3}, "3f": {Kind: 2, N: 63}, "c000": {Kind: 2, N: 64}, "8001": {Kind: 2, N: 128}, "ffffffff0f": {Kind: 2, N: api.MaxIndex}}
	for b, v := range vals() {
		out[b] = api.Block{Kind: 1, Val: v}
	}
	return out
}

func catches() map[string][]api.Catch {
	return map[string][]api.Catch{
		"00": nil, "01000401": {{Tag: 4, Label: 1}}, "0101ffffffff0f8001": {{Kind: 1, Tag: api.MaxIndex, Label: 128}}, "010200": {{Kind: 2}},
		"0103ffffffff0f": {{Kind: 3, Label: api.MaxIndex}}, "0403000202000000010103": {{Kind: 3}, {Kind: 2, Label: 2}, {}, {Kind: 1, Tag: 1, Label: 3}},
	}
}

// parts are of a shape what an instruction may have (all but its Op), by its bytes.
func parts(shape api.Shape) map[string]api.Instr {
	out := map[string]api.Instr{}
	switch shape {
	case api.ShNone:
		out[""] = api.Instr{}
	case api.ShIndex, api.ShLabel:
		for b, n := range indexes() {
			out[b] = api.Instr{X: n}
		}
	case api.ShTwo:
		for b, n := range indexes() {
			for b2, n2 := range indexes() {
				out[b+b2] = api.Instr{X: n, Y: n2}
			}
		}
	case api.ShTable:
		for b, n := range indexes() {
			out["00"+b] = api.Instr{X: n}
			out["01"+b+"02"] = api.Instr{Labels: []int{n}, X: 2}
			out["0307"+b+"00"+b] = api.Instr{Labels: []int{7, n, 0}, X: n}
		}
	case api.ShMem:
		for u, n := range map[string]uint64{"00": 0, "10": 16, "8001": 128, "ffffffff0f": 1<<32 - 1, "8080808010": 1 << 32, "ffffffffffffffffff01": math.MaxUint64} {
			out["00"+u], out["02"+u], out["3f"+u] = api.Instr{U: n}, api.Instr{X: 2, U: n}, api.Instr{X: 63, U: n}
			out["4001"+u], out["428001"+u], out["7fffffffff0f"+u] = api.Instr{Y: 1, U: n}, api.Instr{X: 2, Y: 128, U: n}, api.Instr{X: 63, Y: api.MaxIndex, U: n}
		}
	case api.ShI32:
		for b, n := range map[string]uint64{"00": 0, "3f": 63, "c000": 64, "7f": 1<<32 - 1, "40": 1<<32 - 64, "bf7f": 1<<32 - 65, "ffffffff07": 1<<31 - 1, "8080808078": 1 << 31} {
			out[b] = api.Instr{U: n}
		}
	case api.ShI64:
		for b, n := range map[string]uint64{"00": 0, "3f": 63, "c000": 64, "7f": math.MaxUint64, "40": 1<<64 - 64, "bf7f": 1<<64 - 65, "ffffffff0f": 1<<32 - 1, "8080808008": 1 << 31, "ffffffffffffffffff00": 1<<63 - 1, "8080808080808080807f": 1 << 63} {
			out[b] = api.Instr{U: n}
		}
	default:
		typed(shape, out)
	}
	return out
}

// typed are those parts in which types stand.
func typed(shape api.Shape, out map[string]api.Instr) {
	switch shape {
	case api.ShHeap:
		for b, h := range heaps() {
			out[b] = api.Instr{Heap: h}
		}
	case api.ShTypes:
		out["00"] = api.Instr{}
		for b, v := range vals() {
			out["01"+b], out["037e"+b+"7f"] = api.Instr{Types: []api.Val{v}}, api.Instr{Types: []api.Val{i64, v, i32}}
		}
	case api.ShBlock:
		for b, x := range blocks() {
			out[b] = api.Instr{Block: x}
		}
	case api.ShTry:
		for b, x := range blocks() {
			for c, l := range catches() {
				out[b+c] = api.Instr{Block: x, Catches: l}
			}
		}
	case api.ShCast:
		for b, h := range heaps() {
			out["0000"+b+"6e"], out["0101"+b+"05"] = api.Instr{Heap: h, Heap2: hAny}, api.Instr{X: 1, Null: true, Heap: h, Heap2: api.Heap{Kind: api.HIndex, N: 5}}
			out["02800100"+b], out["03ffffffff0f6a"+b] = api.Instr{X: 128, Null2: true, Heap: api.Heap{Kind: api.HIndex}, Heap2: h}, api.Instr{X: api.MaxIndex, Null: true, Null2: true, Heap: api.Heap{Kind: api.HArray}, Heap2: h}
		}
	}
}

// sample is an instruction, and its shortest bytes.
type sample struct {
	i api.Instr
	b string
}

func opBytes(op api.Op) string {
	if op > 0xff {
		return string([]byte{byte(op >> 8), byte(op)})
	}
	return string([]byte{byte(op)})
}

// samples are instructions of all opcodes, in an order of their own.
func samples() []sample {
	var out []sample
	for _, op := range ops.All() {
		of := parts(ops.Shape(op))
		var bytes []string
		for b := range of {
			bytes = append(bytes, b)
		}
		slices.Sort(bytes)
		for _, b := range bytes {
			i := of[b]
			i.Op = op
			out = append(out, sample{i, opBytes(op) + raw(b)})
		}
	}
	return out
}

// nested is a row that is well nested in which a sample stands, and its bytes as an expression.
func nested(s sample) ([]api.Instr, string) {
	end := api.Instr{Op: 0x0b}
	switch ops.Name(s.i.Op) {
	case "block", "loop", "if", "try_table":
		return []api.Instr{s.i, end}, s.b + "\x0b\x0b"
	case "else":
		return []api.Instr{{Op: 0x04}, s.i, end}, "\x04\x40" + s.b + "\x0b\x0b"
	case "end":
		return []api.Instr{{Op: 0x02}, s.i}, "\x02\x40" + s.b + "\x0b"
	}
	return []api.Instr{s.i}, s.b + "\x0b"
}

// change is one of a field.
type change struct {
	field string
	set   func(*api.Instr)
}

// changes set each field to something that is not zero, where it was, part by part.
func changes() []change {
	return []change{
		{"X", func(i *api.Instr) { i.X = 1 }}, {"X", func(i *api.Instr) { i.X = -1 }}, {"Y", func(i *api.Instr) { i.Y = 2 }}, {"Y", func(i *api.Instr) { i.Y = -1 }}, {"U", func(i *api.Instr) { i.U = 1 }},
		{"Heap", func(i *api.Instr) { i.Heap = hAny }}, {"Heap", func(i *api.Instr) { i.Heap.Kind = api.HIndex }}, {"Heap", func(i *api.Instr) { i.Heap.N = 1 }},
		{"Heap2", func(i *api.Instr) { i.Heap2 = hAny }}, {"Heap2", func(i *api.Instr) { i.Heap2.Kind = api.HIndex }}, {"Heap2", func(i *api.Instr) { i.Heap2.N = 1 }},
		{"Null", func(i *api.Instr) { i.Null = true }}, {"Null2", func(i *api.Instr) { i.Null2 = true }},
		{"Types", func(i *api.Instr) { i.Types = []api.Val{i32} }}, {"Types", func(i *api.Instr) { i.Types = []api.Val{{}} }},
		{"Labels", func(i *api.Instr) { i.Labels = []int{0} }}, {"Labels", func(i *api.Instr) { i.Labels = []int{1, 2} }},
		{"Block", func(i *api.Instr) { i.Block = api.Block{Kind: 1, Val: i32} }}, {"Block", func(i *api.Instr) { i.Block.Kind = 2 }}, {"Block", func(i *api.Instr) { i.Block.N = 1 }}, {"Block", func(i *api.Instr) { i.Block.Val.Null = true }},
		{"Catches", func(i *api.Instr) { i.Catches = []api.Catch{{}} }}, {"Catches", func(i *api.Instr) { i.Catches = []api.Catch{{Kind: 2, Label: 1}} }},
	}
}

// mayNot holds that an instruction may not be, and has no bytes.
func mayNot(t *testing.T, i api.Instr) {
	t.Helper()
	if May(i) {
		t.Errorf("%+v may be", i)
	}
	l, _ := nested(sample{i: i})
	if b := Put(l); len(b) != 0 {
		t.Errorf("%+v: %x", l, b)
	}
}

func TestP71May(t *testing.T) {
	for _, s := range samples() {
		if !May(s.i) {
			t.Errorf("%+v may not be", s.i)
		}
		i := s.i
		i.Types, i.Labels, i.Catches = append([]api.Val{}, i.Types...), append([]int{}, i.Labels...), append([]api.Catch{}, i.Catches...)
		if !May(i) {
			t.Errorf("%+v, with empty lists, may not be", i)
		}
	}
}

// What a shape doesn't ask for is zero.
func TestP71MayElse(t *testing.T) {
	for _, s := range samples() {
		has := strings.Fields(asked[ops.Shape(s.i.Op)])
		for _, c := range changes() {
			if i := s.i; !slices.Contains(has, c.field) {
				c.set(&i)
				mayNot(t, i)
			}
		}
	}
}

// Opcodes that are no instruction's, with whatever fields.
func TestP71MayOps(t *testing.T) {
	none := []api.Op{math.MinInt, -1, math.MaxInt, 1<<32 + 1, 0xfb<<16 + 1, 0x1fb00}
	for op := api.Op(-300); op < 0x10000; op++ {
		if ops.Name(op) == "" {
			none = append(none, op)
		}
	}
	for _, op := range none {
		if May(api.Instr{Op: op}) || len(Put([]api.Instr{{Op: op}})) != 0 {
			t.Errorf("%x", int(op))
		}
	}
	for _, op := range []api.Op{0x06, 0x07, 0x09, 0x16, 0x1d, 0x27, 0x2a, 0x43, 0xd7, 0xfb, 0xfc, 0xfd, 0xfe, 0xff, 0xfb1f, 0xfc07, 0xfc12, 0xfd00, -1} {
		for _, s := range samples() {
			s.i.Op = op
			mayNot(t, s.i)
		}
	}
}

func oddHeaps() []api.Heap {
	l := []api.Heap{{}, {N: 1}, {Kind: -1}, {Kind: api.HRec}, {Kind: api.HDef, N: 1}, {Kind: 16}, {Kind: api.HAny, N: 1}, {Kind: api.HNoExn, N: -1}, {Kind: math.MinInt}, {Kind: math.MaxInt}}
	for _, n := range oddIndexes() {
		l = append(l, api.Heap{Kind: api.HIndex, N: n})
	}
	return l
}

func oddVals() []api.Val {
	l := []api.Val{{}, {Kind: api.VBot}, {Kind: -1}, {Kind: 5}, {Kind: api.VI32, Null: true}, {Kind: api.VI64, Heap: hAny}}
	for _, h := range oddHeaps() {
		l = append(l, api.Val{Kind: api.VRef, Heap: h}, api.Val{Kind: api.VRef, Null: true, Heap: h})
	}
	return l
}

func oddIndexes() []int { return []int{math.MinInt, -1 << 32, -1, 1 << 32, math.MaxInt} }

func oddBlocks() []api.Block {
	l := []api.Block{{Kind: -1}, {Kind: 3}, {Kind: math.MaxInt}, {Kind: math.MinInt}, {N: 1}, {N: -1}, {Val: i32}, {Kind: 1, Val: i32, N: 1}, {Kind: 1, Val: i32, N: -1}, {Kind: 2, Val: i32}, {Kind: 2, N: 1, Val: api.Val{Null: true}}, {Kind: 3, Val: i32}, {Kind: 3, N: 1}}
	for _, v := range oddVals() {
		l = append(l, api.Block{Kind: 1, Val: v})
	}
	for _, n := range oddIndexes() {
		l = append(l, api.Block{Kind: 2, N: n})
	}
	return l
}

func oddCatches() []api.Catch {
	l := []api.Catch{{Kind: -1}, {Kind: 4}, {Kind: math.MaxInt}, {Kind: math.MinInt}, {Kind: 256}, {Kind: 2, Tag: 1}, {Kind: 3, Tag: 1, Label: 1}, {Kind: 2, Tag: -1}, {Kind: 4, Tag: 1, Label: 1}}
	for _, n := range oddIndexes() {
		l = append(l, api.Catch{Tag: n}, api.Catch{Label: n}, api.Catch{Kind: 1, Tag: n}, api.Catch{Kind: 1, Label: n}, api.Catch{Kind: 2, Label: n}, api.Catch{Kind: 3, Label: n}, api.Catch{Kind: 2, Tag: n}, api.Catch{Kind: 3, Tag: n})
	}
	return l
}

// odd are instructions that have the right fields, one of them with what may not be there.
func odd(op api.Op) []api.Instr {
	var l []api.Instr
	add := func(i api.Instr) {
		i.Op = op
		l = append(l, i)
	}
	shape := ops.Shape(op)
	for _, n := range oddIndexes() {
		switch shape {
		case api.ShIndex, api.ShLabel:
			add(api.Instr{X: n})
		case api.ShTwo:
			add(api.Instr{X: n})
			add(api.Instr{Y: n})
			add(api.Instr{X: 1, Y: n})
		case api.ShTable:
			add(api.Instr{X: n})
			add(api.Instr{Labels: []int{n}})
			add(api.Instr{Labels: []int{0, n, 1}, X: 1})
		case api.ShMem:
			add(api.Instr{X: n})
			add(api.Instr{Y: n})
		case api.ShCast:
			add(api.Instr{X: n, Heap: hAny, Heap2: hAny})
		}
	}
	switch shape {
	case api.ShMem:
		for _, n := range []int{64, 65, 127, 128} {
			add(api.Instr{X: n})
			add(api.Instr{X: n, Y: 1, U: 1})
		}
	case api.ShI32:
		for _, n := range []uint64{1 << 32, 1<<32 + 1, 1 << 63, math.MaxUint64} {
			add(api.Instr{U: n})
		}
	case api.ShTypes:
		for _, v := range oddVals() {
			add(api.Instr{Types: []api.Val{v}})
			add(api.Instr{Types: []api.Val{i32, v, i64}})
		}
	case api.ShTry:
		for _, c := range oddCatches() {
			add(api.Instr{Catches: []api.Catch{c}})
			add(api.Instr{Catches: []api.Catch{{}, c, {Kind: 2}}})
		}
		fallthrough
	case api.ShBlock:
		for _, b := range oddBlocks() {
			add(api.Instr{Block: b})
		}
	case api.ShCast:
		for _, h := range oddHeaps() {
			add(api.Instr{Heap: h, Heap2: hAny})
			add(api.Instr{Heap: hAny, Heap2: h, Null: true, Null2: true})
		}
	case api.ShHeap:
		for _, h := range oddHeaps() {
			add(api.Instr{Heap: h})
		}
	}
	return l
}

func TestP71MayOdd(t *testing.T) {
	for _, op := range ops.All() {
		for _, i := range odd(op) {
			mayNot(t, i)
		}
	}
}

// letters are what nests, and a nop.
var letters = map[byte]api.Op{'b': 0x02, 'l': 0x03, 't': 0x1f, 'i': 0x04, 's': 0x05, 'e': 0x0b, 'n': 0x01}

// reduced says whether a row is well nested: nothing is left of it, if what has nothing in it is taken away, again and again.
func reduced(s string) bool {
	pairs := strings.NewReplacer("n", "", "be", "", "le", "", "te", "", "ie", "", "ise", "")
	for was := ""; was != s; {
		was = s
		s = pairs.Replace(s)
	}
	return s == ""
}

// rowsOf tells all rows of so many letters.
func rowsOf(of string, long int, tell func(string)) {
	var fill func(s string)
	fill = func(s string) {
		if len(s) == long {
			tell(s)
			return
		}
		for i := range len(of) {
			fill(s + of[i:i+1])
		}
	}
	fill("")
}

func TestP71Nested(t *testing.T) {
	held := func(s string) {
		var l, whole []api.Instr
		for i := range len(s) {
			l = append(l, api.Instr{Op: letters[s[i]]})
			// Whatever else they have.
			whole = append(whole, api.Instr{Op: letters[s[i]], X: -1, Block: api.Block{Kind: 9}, Labels: []int{-5}})
		}
		want := reduced(s)
		if Nested(l) != want || Nested(whole) != want {
			t.Fatalf("%s: not %v", s, want)
		}
		if b := Put(l); (len(b) != 0) != want {
			t.Fatalf("%s: %x", s, b)
		}
	}
	for long := range 6 {
		rowsOf("bltisen", long, held)
	}
	rowsOf("bise", 7, held)
	rowsOf("ise", 9, held)
}

// No other opcode, whichever, opens or closes anything.
func TestP71NestedOthers(t *testing.T) {
	nests := map[api.Op]bool{}
	for _, op := range letters {
		nests[op] = op != 0x01
	}
	for op := api.Op(-0x200); op < 0x10200; op++ {
		if nests[op] {
			continue
		}
		for _, l := range [][]api.Instr{{{Op: op}}, {{Op: 0x04}, {Op: op}, {Op: 0x05}, {Op: op}, {Op: 0x0b}, {Op: op}}} {
			if !Nested(l) {
				t.Errorf("%x", int(op))
			}
		}
		for _, l := range [][]api.Instr{{{Op: op}, {Op: 0x0b}}, {{Op: op}, {Op: 0x05}, {Op: 0x0b}}, {{Op: 0x02}, {Op: op}}} {
			if Nested(l) {
				t.Errorf("%x", int(op))
			}
		}
	}
	if !Nested(nil) || !Nested([]api.Instr{}) {
		t.Error("an empty row")
	}
}

// full is an instruction in which no field is zero.
func full() api.Instr {
	return api.Instr{
		Op: 1, X: 2, Y: 3, U: 4, Heap: api.Heap{Kind: 5, N: 6}, Heap2: api.Heap{Kind: 7, N: 8}, Null: true, Null2: true, Types: []api.Val{{Kind: 9, Null: true, Heap: api.Heap{Kind: 10, N: 11}}, i32}, Labels: []int{12, 13},
		Block: api.Block{Kind: 14, Val: api.Val{Kind: 15, Null: true, Heap: api.Heap{Kind: 16, N: 17}}, N: 18}, Catches: []api.Catch{{Kind: 19, Tag: 20, Label: 21}, {}},
	}
}

// differs are changes of each part of full.
func differs() []func(*api.Instr) {
	return []func(*api.Instr){
		func(i *api.Instr) { i.Op++ }, func(i *api.Instr) { i.X++ }, func(i *api.Instr) { i.Y++ }, func(i *api.Instr) { i.U++ },
		func(i *api.Instr) { i.Heap.Kind++ }, func(i *api.Instr) { i.Heap.N++ }, func(i *api.Instr) { i.Heap2.Kind++ }, func(i *api.Instr) { i.Heap2.N++ },
		func(i *api.Instr) { i.Null = false }, func(i *api.Instr) { i.Null2 = false },
		func(i *api.Instr) { i.Types = nil }, func(i *api.Instr) { i.Types = i.Types[:1] }, func(i *api.Instr) { i.Types[0].Kind++ }, func(i *api.Instr) { i.Types[0].Null = false },
		func(i *api.Instr) { i.Types[0].Heap.Kind++ }, func(i *api.Instr) { i.Types[0].Heap.N++ }, func(i *api.Instr) { i.Types[1] = i64 }, func(i *api.Instr) { slices.Reverse(i.Types) },
		func(i *api.Instr) { i.Labels = nil }, func(i *api.Instr) { i.Labels = i.Labels[:1] }, func(i *api.Instr) { i.Labels[1]++ }, func(i *api.Instr) { i.Labels = append(i.Labels, 0) }, func(i *api.Instr) { slices.Reverse(i.Labels) },
		func(i *api.Instr) { i.Block.Kind++ }, func(i *api.Instr) { i.Block.N++ }, func(i *api.Instr) { i.Block.Val.Kind++ }, func(i *api.Instr) { i.Block.Val.Null = false },
		func(i *api.Instr) { i.Block.Val.Heap.Kind++ }, func(i *api.Instr) { i.Block.Val.Heap.N++ },
		func(i *api.Instr) { i.Catches = nil }, func(i *api.Instr) { i.Catches = i.Catches[:1] }, func(i *api.Instr) { i.Catches[0].Kind++ }, func(i *api.Instr) { i.Catches[0].Tag++ }, func(i *api.Instr) { i.Catches[0].Label++ },
		func(i *api.Instr) { i.Catches[1].Label++ }, func(i *api.Instr) { slices.Reverse(i.Catches) },
	}
}

func TestP71Same(t *testing.T) {
	rows := [][]api.Instr{nil, {full()}, {full(), {Op: 0x0b}}, {{Op: 0x0b}, full()}, {{}}, {{}, {}}}
	for i := range rows {
		for j := range rows {
			if Same(rows[i], rows[j]) != (i == j) {
				t.Errorf("%d, %d", i, j)
			}
		}
	}
	for k, set := range differs() {
		other := full()
		set(&other)
		for _, both := range [][2][]api.Instr{{{full()}, {other}}, {{other}, {full()}}, {{{}, full()}, {{}, other}}, {{other, {}}, {full(), {}}}} {
			if Same(both[0], both[1]) {
				t.Errorf("%d: %+v", k, other)
			}
		}
		if !Same([]api.Instr{other}, []api.Instr{other}) {
			t.Errorf("%d: itself", k)
		}
	}
	if !Same(nil, []api.Instr{}) || !Same([]api.Instr{{Types: []api.Val{}, Labels: []int{}, Catches: []api.Catch{}}}, []api.Instr{{}}) || !Same([]api.Instr{{}}, []api.Instr{{Types: []api.Val{}, Labels: []int{}, Catches: []api.Catch{}}}) {
		t.Error("none and an empty list")
	}
}
