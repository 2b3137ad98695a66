package ops

import (
	"math"
	"slices"
	"strconv"
	"strings"
	"testing"

	"geode/api"
)

// The chapter's tables, as they stand there.
const (
	runsTable = `
00 | unreachable, nop, block, loop, if, else
08 | throw
0a | throw_ref, end, br, br_if, br_table, return, call, call_indirect, return_call, return_call_indirect, call_ref, return_call_ref
1a | drop, select, select_t
1f | try_table, local.get, local.set, local.tee, global.get, global.set, table.get, table.set
28 | i32.load, i64.load
2c | i32.load8_s, i32.load8_u, i32.load16_s, i32.load16_u, i64.load8_s, i64.load8_u, i64.load16_s, i64.load16_u, i64.load32_s, i64.load32_u, i32.store, i64.store
3a | i32.store8, i32.store16, i64.store8, i64.store16, i64.store32, memory.size, memory.grow, i32.const, i64.const
45 | i32.eqz, i32.eq, i32.ne, i32.lt_s, i32.lt_u, i32.gt_s, i32.gt_u, i32.le_s, i32.le_u, i32.ge_s, i32.ge_u, i64.eqz, i64.eq, i64.ne, i64.lt_s, i64.lt_u, i64.gt_s, i64.gt_u, i64.le_s, i64.le_u, i64.ge_s, i64.ge_u
67 | i32.clz, i32.ctz, i32.popcnt, i32.add, i32.sub, i32.mul, i32.div_s, i32.div_u, i32.rem_s, i32.rem_u, i32.and, i32.or, i32.xor, i32.shl, i32.shr_s, i32.shr_u, i32.rotl, i32.rotr, i64.clz, i64.ctz, i64.popcnt, i64.add, i64.sub, i64.mul, i64.div_s, i64.div_u, i64.rem_s, i64.rem_u, i64.and, i64.or, i64.xor, i64.shl, i64.shr_s, i64.shr_u, i64.rotl, i64.rotr
a7 | i32.wrap_i64
ac | i64.extend_i32_s, i64.extend_i32_u
c0 | i32.extend8_s, i32.extend16_s, i64.extend8_s, i64.extend16_s, i64.extend32_s
d0 | ref.null, ref.is_null, ref.func, ref.eq, ref.as_non_null, br_on_null, br_on_non_null
fb 00 | struct.new, struct.new_default, struct.get, struct.get_s, struct.get_u, struct.set, array.new, array.new_default, array.new_fixed, array.new_data, array.new_elem, array.get, array.get_s, array.get_u, array.set, array.len, array.fill, array.copy, array.init_data, array.init_elem, ref.test, ref.test_null, ref.cast, ref.cast_null, br_on_cast, br_on_cast_fail, any.convert_extern, extern.convert_any, ref.i31, i31.get_s, i31.get_u
fc 08 | memory.init, data.drop, memory.copy, memory.fill, table.init, elem.drop, table.copy, table.grow, table.size, table.fill
`
	shapesTable = `
ShBlock | block, loop, if
ShTry | try_table
ShLabel | br, br_if, br_on_null, br_on_non_null
ShTable | br_table
ShTwo | call_indirect, return_call_indirect, struct.get, struct.get_s, struct.get_u, struct.set, array.new_fixed, array.new_data, array.new_elem, array.copy, array.init_data, array.init_elem, memory.init, memory.copy, table.init, table.copy
ShMem | all loads and stores
ShI32, ShI64 | i32.const, i64.const
ShHeap | ref.null, ref.test, ref.test_null, ref.cast, ref.cast_null
ShTypes | select_t
ShCast | br_on_cast, br_on_cast_fail
ShIndex | throw, call, return_call, call_ref, return_call_ref, local.get, local.set, local.tee, global.get, global.set, table.get, table.set, memory.size, memory.grow, ref.func, struct.new, struct.new_default, array.new, array.new_default, array.get, array.get_s, array.get_u, array.set, array.fill, data.drop, memory.fill, elem.drop, table.grow, table.size, table.fill
`
	knownRow = "2a, 2b, 38, 39, 43, 44, 5b to 66, 8b to a6, a8 to ab, ae to bf, fc 00 to fc 07, fd"
)

// lines are a table's two columns, line by line; the second one parted at its commas.
func lines(table string, tell func(left string, right []string)) {
	for line := range strings.Lines(table) {
		if left, right, ok := strings.Cut(strings.TrimSpace(line), " | "); ok {
			tell(left, strings.Split(right, ", "))
		}
	}
}

// code reads an opcode as the chapter writes it: 6a, fb 18.
func code(s string) api.Op {
	n, err := strconv.ParseInt(strings.ReplaceAll(s, " ", ""), 16, 64)
	if err != nil {
		panic(err)
	}
	return api.Op(n)
}

// names are the chapter's instructions.
func names() map[api.Op]string {
	all := map[api.Op]string{}
	lines(runsTable, func(first string, row []string) {
		op := code(first)
		for _, n := range row {
			all[op] = n
			op++
		}
	})
	return all
}

// shapes are the chapter's shapes, by name.
func shapes() map[string]api.Shape {
	of := map[string]api.Shape{"ShBlock": api.ShBlock, "ShTry": api.ShTry, "ShLabel": api.ShLabel, "ShTable": api.ShTable, "ShTwo": api.ShTwo, "ShMem": api.ShMem, "ShHeap": api.ShHeap, "ShTypes": api.ShTypes, "ShCast": api.ShCast, "ShIndex": api.ShIndex}
	all := map[string]api.Shape{}
	lines(shapesTable, func(shape string, row []string) {
		switch {
		case shape == "ShI32, ShI64":
			all[row[0]], all[row[1]] = api.ShI32, api.ShI64
		case row[0] == "all loads and stores":
			for _, n := range names() {
				if accesses(n) {
					all[n] = of[shape]
				}
			}
		default:
			for _, n := range row {
				all[n] = of[shape]
			}
		}
	})
	return all
}

// known are the chapter's opcodes that are known.
func known() map[api.Op]bool {
	all := map[api.Op]bool{}
	for part := range strings.SplitSeq(knownRow, ", ") {
		first, last, ok := strings.Cut(part, " to ")
		if !ok {
			last = first
		}
		for op := code(first); op <= code(last); op++ {
			all[op] = true
		}
	}
	return all
}

func accesses(name string) bool {
	_, does, _ := strings.Cut(name, ".")
	return strings.HasPrefix(does, "load") || strings.HasPrefix(does, "store")
}

// bytes are as many as a load's or store's name asks for.
func bytes(name string) int {
	if !accesses(name) {
		return 0
	}
	kind, does, _ := strings.Cut(name, ".")
	does, _, _ = strings.Cut(does, "_")
	digits := strings.TrimLeft(does, "adelorst")
	if digits == "" {
		digits = kind[1:]
	}
	n, err := strconv.Atoi(digits)
	if err != nil {
		panic(err)
	}
	return n / 8
}

// codes are all opcodes there may be, and others around and far from them.
func codes() []api.Op {
	all := []api.Op{math.MinInt, math.MinInt + 1, -1 << 40, -1 << 32, -1 << 32, math.MaxInt - 1, math.MaxInt}
	for op := api.Op(-0x20000); op < 0x30000; op++ {
		all = append(all, op)
	}
	// What is an opcode's number if it is cut to fewer bits.
	for op := api.Op(0); op < 0x100; op++ {
		all = append(all, op+1<<32, op-1<<32, op+1<<40, op<<32, op<<24, op+0xfb<<16, op+0xfc<<16, op+0xfd<<24, op+1<<62)
	}
	return all
}

func TestP51Name(t *testing.T) {
	want := names()
	for _, op := range codes() {
		if got := Name(op); got != want[op] {
			t.Errorf("%x: %q, not %q", int(op), got, want[op])
		}
	}
}

func TestP51Find(t *testing.T) {
	for op, name := range names() {
		if got := Find(name); got != op {
			t.Errorf("%s: %x", name, int(got))
		}
	}
}

func TestP51FindNone(t *testing.T) {
	are := map[string]api.Op{}
	for op, name := range names() {
		are[name] = op
	}
	for name, op := range are {
		for _, n := range []string{
			name + " ", " " + name, name + ".", name + "\x00", name[1:], name[:len(name)-1], name + name, name + " " + Name(op+1),
			strings.ToUpper(name), strings.ReplaceAll(name, ".", " "), strings.ReplaceAll(name, ".", "/"),
		} {
			if _, one := are[n]; !one && Find(n) != -1 {
				t.Errorf("%q: %x", n, int(Find(n)))
			}
		}
	}
	for _, n := range []string{
		"", " ", "\n", "f32.add", "f64.const", "v128.load", "i32", "i32.", ".", "add", "i32.load8", "i32.load32_s", "i32.store32",
		"i64.store8_s", "i32.extend32_s", "i64.wrap_i64", "i32.extend_i32_s", "select t", "select_t ", "try", "catch", "rethrow",
		"array.new_fixe", "struct.get_", "array.len_s", "ref.nul", "ref.is_non_null", "br_on", "br_on_cast_fail_", "memory.discard",
		"table.drop", "i31.new", "nop nop", "nop block", "-1", "0", "\xff", strings.Repeat("nop", 10000),
	} {
		if got := Find(n); got != -1 {
			t.Errorf("%q: %x", n, int(got))
		}
	}
}

func TestP51Shape(t *testing.T) {
	name, shape := names(), shapes()
	for _, op := range codes() {
		var want api.Shape
		if n, ok := name[op]; ok {
			want = max(shape[n], api.ShNone) // ShNone is the first one: what no line has is of it.
		}
		if got := Shape(op); got != want {
			t.Errorf("%x (%s): %d, not %d", int(op), name[op], got, want)
		}
	}
}

// Each name that the shapes' table has is an instruction's, so that no line of it is lost.
func TestP51ShapesTable(t *testing.T) {
	for n := range shapes() {
		if Find(n) == -1 {
			t.Errorf("%s is no instruction", n)
		}
	}
}

func TestP51All(t *testing.T) {
	var want []api.Op
	for op := range names() {
		want = append(want, op)
	}
	slices.Sort(want)
	got := All()
	if !slices.Equal(got, want) {
		t.Fatalf("%x", got)
	}
	// What is told is the caller's.
	clear(got[:cap(got)])
	if !slices.Equal(All(), want) {
		t.Error("what is told is shared")
	}
}

func TestP52Known(t *testing.T) {
	want := known()
	for _, op := range codes() {
		if got := Known(op); got != want[op] {
			t.Errorf("%x: %v", int(op), got)
		}
	}
	for n := range api.Op(0x10000) {
		if Known(0xfd<<8 + n) {
			t.Errorf("%x is known", int(0xfd<<8+n))
		}
	}
}

func TestP53Bytes(t *testing.T) {
	name := names()
	for _, op := range codes() {
		if got := Bytes(op); got != bytes(name[op]) {
			t.Errorf("%x (%s): %d", int(op), name[op], got)
		}
	}
}

func TestP54(t *testing.T) {
	all := All()
	if len(all) != 167 {
		t.Errorf("%d instructions", len(all))
	}
	for i, op := range all {
		if i > 0 && op <= all[i-1] {
			t.Errorf("%x behind %x", int(op), int(all[i-1]))
		}
		if Find(Name(op)) != op || Known(op) || Shape(op) < api.ShNone || Shape(op) > api.ShCast {
			t.Errorf("%x: %s %x %v %d", int(op), Name(op), int(Find(Name(op))), Known(op), Shape(op))
		}
		if (Bytes(op) != 0) != (Shape(op) == api.ShMem) {
			t.Errorf("%x: of %d bytes, and of shape %d", int(op), Bytes(op), Shape(op))
		}
	}
	for _, op := range codes() {
		if _, one := slices.BinarySearch(all, op); one != (Name(op) != "") || one != (Shape(op) != 0) {
			t.Errorf("%x: %v %q %d", int(op), one, Name(op), Shape(op))
		}
	}
}

func TestExamples(t *testing.T) {
	if Name(0x6a) != "i32.add" || Find("br_on_cast") != 0xfb18 || Shape(0x11) != api.ShTwo {
		t.Error("the first row")
	}
	if Name(0x06) != "" || Shape(0x06) != 0 || !Known(0x8b) || !Known(0xfd) {
		t.Error("the second row")
	}
	if Bytes(0x35) != 4 || Bytes(0x28) != 4 || Bytes(0x3f) != 0 {
		t.Error("the third row")
	}
}
