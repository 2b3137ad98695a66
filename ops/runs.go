package ops

import (
	"strings"

	"geode/api"
)

// span are opcodes one behind the other.
type span struct{ first, last api.Op }

func (s span) has(op api.Op) bool { return s.first <= op && op <= s.last }

// run are instructions one behind the other; last stands there so that no names need to be counted to know where it ends.
type run struct {
	span
	names string
}

// The names of each run, parted by blanks.
const (
	simple = "unreachable nop block loop if else"
	throw  = "throw"
	jumps  = "throw_ref end br br_if br_table return " +
		"call call_indirect return_call return_call_indirect call_ref return_call_ref"
	picks  = "drop select select_t"
	places = "try_table local.get local.set local.tee global.get global.set table.get table.set"
	plain  = "i32.load i64.load"
	parts  = "i32.load8_s i32.load8_u i32.load16_s i32.load16_u " +
		"i64.load8_s i64.load8_u i64.load16_s i64.load16_u i64.load32_s i64.load32_u i32.store i64.store"
	stores = "i32.store8 i32.store16 i64.store8 i64.store16 i64.store32 " +
		"memory.size memory.grow i32.const i64.const"
	asking = "i32.eqz i32.eq i32.ne i32.lt_s i32.lt_u i32.gt_s i32.gt_u i32.le_s i32.le_u i32.ge_s i32.ge_u " +
		"i64.eqz i64.eq i64.ne i64.lt_s i64.lt_u i64.gt_s i64.gt_u i64.le_s i64.le_u i64.ge_s i64.ge_u"
	reckoning = "i32.clz i32.ctz i32.popcnt i32.add i32.sub i32.mul i32.div_s i32.div_u i32.rem_s i32.rem_u " +
		"i32.and i32.or i32.xor i32.shl i32.shr_s i32.shr_u i32.rotl i32.rotr " +
		"i64.clz i64.ctz i64.popcnt i64.add i64.sub i64.mul i64.div_s i64.div_u i64.rem_s i64.rem_u " +
		"i64.and i64.or i64.xor i64.shl i64.shr_s i64.shr_u i64.rotl i64.rotr"
	wrapping  = "i32.wrap_i64"
	widening  = "i64.extend_i32_s i64.extend_i32_u"
	extending = "i32.extend8_s i32.extend16_s i64.extend8_s i64.extend16_s i64.extend32_s"
	refs      = "ref.null ref.is_null ref.func ref.eq ref.as_non_null br_on_null br_on_non_null"
	things    = "struct.new struct.new_default struct.get struct.get_s struct.get_u struct.set " +
		"array.new array.new_default array.new_fixed array.new_data array.new_elem " +
		"array.get array.get_s array.get_u array.set array.len " +
		"array.fill array.copy array.init_data array.init_elem " +
		"ref.test ref.test_null ref.cast ref.cast_null br_on_cast br_on_cast_fail " +
		"any.convert_extern extern.convert_any ref.i31 i31.get_s i31.get_u"
	bulk = "memory.init data.drop memory.copy memory.fill " +
		"table.init elem.drop table.copy table.grow table.size table.fill"
)

// runs are all of them, rising.
func runs() [16]run {
	return [...]run{
		{span{0x00, 0x05}, simple},
		{span{0x08, 0x08}, throw},
		{span{0x0a, 0x15}, jumps},
		{span{0x1a, 0x1c}, picks},
		{span{0x1f, 0x26}, places},
		{span{0x28, 0x29}, plain},
		{span{0x2c, 0x37}, parts},
		{span{0x3a, 0x42}, stores},
		{span{0x45, 0x5a}, asking},
		{span{0x67, 0x8a}, reckoning},
		{span{0xa7, 0xa7}, wrapping},
		{span{0xac, 0xad}, widening},
		{span{0xc0, 0xc4}, extending},
		{span{0xd0, 0xd6}, refs},
		{span{0xfb00, 0xfb1e}, things},
		{span{0xfc08, 0xfc11}, bulk},
	}
}

// instruction says whether an opcode is one's.
func instruction(op api.Op) bool {
	for _, r := range runs() {
		if r.has(op) {
			return true
		}
	}
	return false
}

// each tells of the instructions, rising, as long as it is told to go on.
func each(tell func(op api.Op, name string) bool) {
	for _, r := range runs() {
		op := r.first
		for name := range strings.FieldsSeq(r.names) {
			if !tell(op, name) {
				return
			}
			op++
		}
	}
}
