package num

import (
	"fmt"
	"math"
	"math/big"
	"strings"
	"testing"

	"geode/api"
)

// told is what One or Two answers.
type told struct {
	n uint64
	e api.Errno
}

func one(op api.Op, a uint64) told {
	n, e := One(op, a)
	return told{n, e}
}

func two(op api.Op, a, b uint64) told {
	n, e := Two(op, a, b)
	return told{n, e}
}

// spec is what the chapter's tables say of an opcode.
type spec struct {
	what           string
	from, to, many int
}

// specs has the chapter's tables, row by row; -1 stands where there is no operation.
func specs() map[api.Op]spec {
	m := map[api.Op]spec{0xa7: {"wrap", 64, 32, 1}, 0xac: {"extend_s", 32, 64, 1}, 0xad: {"extend_u", 32, 64, 1}}
	for _, r := range []struct {
		what           string
		narrow, broad  api.Op
		asked, ofTwain bool
	}{
		{"eqz", 0x45, 0x50, true, false},
		{"clz", 0x67, 0x79, false, false}, {"ctz", 0x68, 0x7a, false, false}, {"popcnt", 0x69, 0x7b, false, false},
		{"extend8_s", 0xc0, 0xc2, false, false}, {"extend16_s", 0xc1, 0xc3, false, false}, {"extend32_s", -1, 0xc4, false, false},
		{"eq", 0x46, 0x51, true, true}, {"ne", 0x47, 0x52, true, true},
		{"lt_s", 0x48, 0x53, true, true}, {"lt_u", 0x49, 0x54, true, true}, {"gt_s", 0x4a, 0x55, true, true}, {"gt_u", 0x4b, 0x56, true, true},
		{"le_s", 0x4c, 0x57, true, true}, {"le_u", 0x4d, 0x58, true, true}, {"ge_s", 0x4e, 0x59, true, true}, {"ge_u", 0x4f, 0x5a, true, true},
		{"add", 0x6a, 0x7c, false, true}, {"sub", 0x6b, 0x7d, false, true}, {"mul", 0x6c, 0x7e, false, true},
		{"div_s", 0x6d, 0x7f, false, true}, {"div_u", 0x6e, 0x80, false, true}, {"rem_s", 0x6f, 0x81, false, true}, {"rem_u", 0x70, 0x82, false, true},
		{"and", 0x71, 0x83, false, true}, {"or", 0x72, 0x84, false, true}, {"xor", 0x73, 0x85, false, true},
		{"shl", 0x74, 0x86, false, true}, {"shr_s", 0x75, 0x87, false, true}, {"shr_u", 0x76, 0x88, false, true},
		{"rotl", 0x77, 0x89, false, true}, {"rotr", 0x78, 0x8a, false, true},
	} {
		many, broadTo := 1, 64
		if r.ofTwain {
			many = 2
		}
		if r.asked {
			broadTo = 32
		}
		m[r.broad] = spec{r.what, 64, broadTo, many}
		if r.narrow >= 0 {
			m[r.narrow] = spec{r.what, 32, 32, many}
		}
	}
	return m
}

// digits writes a number of w bits, the highest first: most of what is said of bits is easily said of a row of digits.
func digits(n uint64, w int) string { return fmt.Sprintf("%0*b", w, n) }

func whole(n uint64) *big.Int { return new(big.Int).SetUint64(n) }

// asSigned is the number that digits stand for as signed.
func asSigned(row string) *big.Int {
	n, _ := new(big.Int).SetString(row, 2)
	if row[0] == '1' {
		n.Sub(n, new(big.Int).Lsh(big.NewInt(1), uint(len(row))))
	}
	return n
}

// modulo brings any number into so many bits.
func modulo(n *big.Int, w int) uint64 {
	return new(big.Int).Mod(n, new(big.Int).Lsh(big.NewInt(1), uint(w))).Uint64()
}

func ofDigits(row string) uint64 {
	n, _ := new(big.Int).SetString(row, 2)
	return n.Uint64()
}

func oneOrNone(yes bool) uint64 {
	if yes {
		return 1
	}
	return 0
}

func modelOne(s spec, a uint64) told {
	if s.from == 32 && a > math.MaxUint32 {
		return told{e: api.ErrArg}
	}
	row := digits(a, s.from)
	n := uint64(0)
	switch s.what {
	case "eqz":
		n = oneOrNone(!strings.Contains(row, "1"))
	case "clz":
		n = uint64(len(row) - len(strings.TrimLeft(row, "0")))
	case "ctz":
		n = uint64(len(row) - len(strings.TrimRight(row, "0")))
	case "popcnt":
		n = uint64(strings.Count(row, "1"))
	case "extend8_s":
		n = modulo(asSigned(row[s.from-8:]), s.to)
	case "extend16_s":
		n = modulo(asSigned(row[s.from-16:]), s.to)
	case "extend32_s":
		n = modulo(asSigned(row[s.from-32:]), s.to)
	case "wrap":
		n = ofDigits(row[32:])
	case "extend_s":
		n = modulo(asSigned(row), s.to)
	case "extend_u":
		n = a
	default:
		panic(s.what)
	}
	return told{n, api.OK}
}

func modelTwo(s spec, a, b uint64) told {
	if s.from == 32 && (a > math.MaxUint32 || b > math.MaxUint32) {
		return told{e: api.ErrArg}
	}
	if strings.HasPrefix(s.what, "div") || strings.HasPrefix(s.what, "rem") {
		return modelDivided(s, a, b)
	}
	if s.to != s.from || len(s.what) == 4 && s.what[2] == '_' || s.what == "eq" || s.what == "ne" {
		return told{modelAsked(s, a, b), api.OK}
	}
	switch s.what {
	case "add":
		return told{modulo(new(big.Int).Add(whole(a), whole(b)), s.to), api.OK}
	case "sub":
		return told{modulo(new(big.Int).Sub(whole(a), whole(b)), s.to), api.OK}
	case "mul":
		return told{modulo(new(big.Int).Mul(whole(a), whole(b)), s.to), api.OK}
	}
	return told{ofDigits(modelDigits(s, a, b)), api.OK}
}

func modelDivided(s spec, a, b uint64) told {
	if b == 0 {
		return told{e: api.ErrZero}
	}
	x, y := whole(a), whole(b)
	if strings.HasSuffix(s.what, "_s") {
		x, y = asSigned(digits(a, s.from)), asSigned(digits(b, s.from))
	}
	if s.what[:3] == "rem" {
		return told{modulo(new(big.Int).Rem(x, y), s.to), api.OK}
	}
	n := new(big.Int).Quo(x, y)
	if s.what == "div_s" && n.Cmp(new(big.Int).Lsh(big.NewInt(1), uint(s.from-1))) == 0 {
		return told{e: api.ErrOver}
	}
	return told{modulo(n, s.to), api.OK}
}

func modelAsked(s spec, a, b uint64) uint64 {
	way := whole(a).Cmp(whole(b))
	if strings.HasSuffix(s.what, "_s") {
		way = asSigned(digits(a, s.from)).Cmp(asSigned(digits(b, s.from)))
	}
	switch s.what[:2] {
	case "eq":
		return oneOrNone(way == 0)
	case "ne":
		return oneOrNone(way != 0)
	case "lt":
		return oneOrNone(way < 0)
	case "gt":
		return oneOrNone(way > 0)
	case "le":
		return oneOrNone(way <= 0)
	case "ge":
		return oneOrNone(way >= 0)
	}
	panic(s.what)
}

func modelDigits(s spec, a, b uint64) string {
	x, y := digits(a, s.from), digits(b, s.from)
	by := int(b % uint64(s.from))
	switch s.what {
	case "shl":
		return x[by:] + strings.Repeat("0", by)
	case "shr_s":
		return strings.Repeat(x[:1], by) + x[:s.from-by]
	case "shr_u":
		return strings.Repeat("0", by) + x[:s.from-by]
	case "rotl":
		return x[by:] + x[:by]
	case "rotr":
		return x[s.from-by:] + x[:s.from-by]
	}
	row := make([]byte, s.from)
	for k := range row {
		set := map[string]bool{"and": x[k] == '1' && y[k] == '1', "or": x[k] == '1' || y[k] == '1', "xor": x[k] != y[k]}[s.what]
		row[k] = '0' + byte(oneOrNone(set))
	}
	return string(row)
}

// numbers are those near to where something changes: all for one number, some where each stands with each.
func numbers(few bool) []uint64 {
	l := []uint64{0xdeadbeef, 0x0123456789abcdef, 0xaaaaaaaaaaaaaaaa, 0x5555555555555555, 0xaaaaaaaa, 0x55555555, 1000003, 6700417}
	for p := range 64 {
		for d := range uint64(5) {
			n := uint64(1)<<p + d - 2
			if few && (d == 0 || d == 4 || p%8 > 0 && p%8 < 7) {
				continue
			}
			l = append(l, n, -n, n&math.MaxUint32, -n&math.MaxUint32)
		}
	}
	return distinct(l)
}

func distinct(l []uint64) []uint64 {
	seen := map[uint64]int{}
	var out []uint64
	for _, n := range l {
		if seen[n] == 0 {
			out = append(out, n)
		}
		seen[n]++
	}
	return out
}

func TestP31Examples(t *testing.T) {
	for _, x := range []struct {
		op   api.Op
		a, b uint64
		want told
	}{
		{0x7c, math.MaxUint64, 2, told{1, api.OK}},
		{0x6d, 1 << 31, math.MaxUint32, told{0, api.ErrOver}},
		{0x6f, 1 << 31, math.MaxUint32, told{0, api.OK}},
		{0x6d, 1<<32 - 7, 2, told{1<<32 - 3, api.OK}},
		{0x75, 1 << 31, 33, told{3221225472, api.OK}},
		{0x77, 1<<31 + 1, 1, told{3, api.OK}},
		{0x45, 0, 0, told{0, api.ErrArg}},
	} {
		if got := two(x.op, x.a, x.b); got != x.want {
			t.Errorf("Two(%x, %d, %d): %v, want %v", int(x.op), x.a, x.b, got, x.want)
		}
	}
	for _, x := range []struct {
		op   api.Op
		a    uint64
		want told
	}{
		{0x67, 1, told{31, api.OK}},
		{0xc0, 255, told{1<<32 - 1, api.OK}},
		{0xac, 1 << 31, told{1<<64 - 1<<31, api.OK}},
		{0x67, 1 << 32, told{0, api.ErrArg}},
	} {
		if got := one(x.op, x.a); got != x.want {
			t.Errorf("One(%x, %d): %v, want %v", int(x.op), x.a, got, x.want)
		}
	}
}

// The edges that the chapter names, of 32 bits and of 64.
func TestP31Edges(t *testing.T) {
	for _, x := range []struct {
		narrow, broad api.Op
		a, b          int64 // as signed, so that one row is of both kinds of numbers
		want          int64
		e             api.Errno
	}{
		{0x6a, 0x7c, -1, 1, 0, api.OK}, {0x6b, 0x7d, 0, 1, -1, api.OK}, {0x6c, 0x7e, -1, -1, 1, api.OK}, {0x6c, 0x7e, -3, 7, -21, api.OK},
		{0x6d, 0x7f, 7, 2, 3, api.OK}, {0x6d, 0x7f, -7, 2, -3, api.OK}, {0x6d, 0x7f, 7, -2, -3, api.OK}, {0x6d, 0x7f, -7, -2, 3, api.OK},
		{0x6f, 0x81, 7, 2, 1, api.OK}, {0x6f, 0x81, -7, 2, -1, api.OK}, {0x6f, 0x81, 7, -2, 1, api.OK}, {0x6f, 0x81, -7, -2, -1, api.OK},
		{0x6d, 0x7f, 0, 0, 0, api.ErrZero}, {0x6e, 0x80, 0, 0, 0, api.ErrZero}, {0x6f, 0x81, 0, 0, 0, api.ErrZero}, {0x70, 0x82, 0, 0, 0, api.ErrZero},
		{0x6d, 0x7f, -1, 0, 0, api.ErrZero}, {0x6e, 0x80, -1, 0, 0, api.ErrZero}, {0x6f, 0x81, -1, 0, 0, api.ErrZero}, {0x70, 0x82, -1, 0, 0, api.ErrZero},
		{0x6e, 0x80, -1, -1, 1, api.OK}, {0x70, 0x82, -1, -1, 0, api.OK}, {0x6e, 0x80, 5, -1, 0, api.OK}, {0x70, 0x82, 5, -1, 5, api.OK},
		{0x48, 0x53, -1, 0, 1, api.OK}, {0x49, 0x54, -1, 0, 0, api.OK}, {0x4a, 0x55, -1, 0, 0, api.OK}, {0x4b, 0x56, -1, 0, 1, api.OK},
		{0x4c, 0x57, 5, 5, 1, api.OK}, {0x4d, 0x58, 5, 5, 1, api.OK}, {0x4e, 0x59, 5, 5, 1, api.OK}, {0x4f, 0x5a, 5, 5, 1, api.OK},
		{0x74, 0x86, 1, 64, 1, api.OK}, {0x74, 0x86, 1, -64, 1, api.OK}, {0x76, 0x88, -1, 64, -1, api.OK}, {0x75, 0x87, -4, 65, -2, api.OK},
		{0x77, 0x89, -2, 64, -2, api.OK}, {0x78, 0x8a, -2, 64, -2, api.OK}, {0x77, 0x89, -2, 1, -3, api.OK}, {0x78, 0x8a, -3, 1, -2, api.OK},
	} {
		if got, want := two(x.narrow, uint64(uint32(x.a)), uint64(uint32(x.b))), (told{uint64(uint32(x.want)), x.e}); got != want {
			t.Errorf("Two(%x, %d, %d): %v, want %v", int(x.narrow), x.a, x.b, got, want)
		}
		if got, want := two(x.broad, uint64(x.a), uint64(x.b)), (told{uint64(x.want), x.e}); got != want {
			t.Errorf("Two(%x, %d, %d): %v, want %v", int(x.broad), x.a, x.b, got, want)
		}
	}
}

// The least number is the one at which signed division has its two edges; as unsigned it has none.
func TestP31Least(t *testing.T) {
	for _, x := range []struct {
		op   api.Op
		a, b uint64
		want told
	}{
		{0x6d, 1 << 31, 1<<32 - 1, told{0, api.ErrOver}}, {0x7f, 1 << 63, 1<<64 - 1, told{0, api.ErrOver}},
		{0x6d, 1 << 31, 1, told{1 << 31, api.OK}}, {0x7f, 1 << 63, 1, told{1 << 63, api.OK}},
		{0x6d, 1<<31 + 1, 1<<32 - 1, told{1<<31 - 1, api.OK}}, {0x7f, 1<<63 + 1, 1<<64 - 1, told{1<<63 - 1, api.OK}},
		{0x6d, 1 << 31, 0, told{0, api.ErrZero}}, {0x7f, 1 << 63, 0, told{0, api.ErrZero}},
		{0x6e, 1 << 31, 1<<32 - 1, told{0, api.OK}}, {0x80, 1 << 63, 1<<64 - 1, told{0, api.OK}},
		{0x6f, 1 << 31, 1<<32 - 1, told{0, api.OK}}, {0x81, 1 << 63, 1<<64 - 1, told{0, api.OK}},
		{0x70, 1 << 31, 1<<32 - 1, told{1 << 31, api.OK}}, {0x82, 1 << 63, 1<<64 - 1, told{1 << 63, api.OK}},
		{0x7f, 1 << 31, 1<<32 - 1, told{0, api.OK}}, {0x7f, 1 << 31, 1<<64 - 1, told{1<<64 - 1<<31, api.OK}},
		{0x74, 1, 32, told{1, api.OK}}, {0x86, 1, 32, told{1 << 32, api.OK}}, {0x75, 1 << 31, 31, told{1<<32 - 1, api.OK}},
		{0x77, 1, 32, told{1, api.OK}}, {0x89, 1, 32, told{1 << 32, api.OK}}, {0x78, 1, 33, told{1 << 31, api.OK}},
	} {
		if got := two(x.op, x.a, x.b); got != x.want {
			t.Errorf("Two(%x, %d, %d): %v, want %v", int(x.op), x.a, x.b, got, x.want)
		}
	}
}

func TestP31OfOne(t *testing.T) {
	for op, s := range specs() {
		if s.many != 1 {
			continue
		}
		for _, a := range numbers(false) {
			if got, want := one(op, a), modelOne(s, a); got != want {
				t.Fatalf("One(%x, %d), %s: %v, want %v", int(op), a, s.what, got, want)
			}
		}
	}
}

// Each number of 8 bits, at each place of one that is wider.
func TestP31OfOneShort(t *testing.T) {
	for op, s := range specs() {
		for place := 0; s.many == 1 && place <= s.from-8; place++ {
			for n := range uint64(1 << 8) {
				if got, want := one(op, n<<place), modelOne(s, n<<place); got != want {
					t.Fatalf("One(%x, %d), %s: %v, want %v", int(op), n<<place, s.what, got, want)
				}
			}
		}
	}
}

func TestP31OfTwo(t *testing.T) {
	few := numbers(true)
	for op, s := range specs() {
		if s.many != 2 {
			continue
		}
		for _, a := range few {
			for _, b := range few {
				if got, want := two(op, a, b), modelTwo(s, a, b); got != want {
					t.Fatalf("Two(%x, %d, %d), %s: %v, want %v", int(op), a, b, s.what, got, want)
				}
			}
		}
	}
}

// By each number of places, and by as many more as make no difference.
func TestP31Shifts(t *testing.T) {
	for op, s := range specs() {
		if !strings.HasPrefix(s.what, "sh") && !strings.HasPrefix(s.what, "rot") {
			continue
		}
		for _, a := range []uint64{1, 1 << 31, 0xdeadbeef, 0x7fffffff, 0xfedcba9876543210, 1 << 63, 1<<63 | 1} {
			for b := range uint64(300) {
				for _, more := range []uint64{0, 1<<32 - 512, 1<<64 - 512} {
					if got, want := two(op, a, more+b), modelTwo(s, a, more+b); got != want {
						t.Fatalf("Two(%x, %d, %d), %s: %v, want %v", int(op), a, more+b, s.what, got, want)
					}
				}
			}
		}
	}
}

// A number that is too wide is told ahead of what the operation itself would tell.
func TestP31TooWide(t *testing.T) {
	arg := told{e: api.ErrArg}
	for op, s := range specs() {
		for _, n := range []uint64{1 << 32, 1<<32 + 1, 1 << 63, math.MaxUint64, math.MaxUint64 - math.MaxUint32} {
			if s.many == 1 && (one(op, n) == arg) != (s.from == 32) {
				t.Errorf("One(%x, %d): %v", int(op), n, one(op, n))
			}
			for _, x := range [][2]uint64{{n, 0}, {n, 1}, {0, n}, {1 << 31, n}, {n, n}, {n, math.MaxUint32}} {
				if s.many == 2 && (two(op, x[0], x[1]) == arg) != (s.from == 32) {
					t.Errorf("Two(%x, %d): %v", int(op), x, two(op, x[0], x[1]))
				}
			}
		}
	}
}

// opcodes are all that are short, those that have a prefix, and those that are as others are but for their high bits.
func opcodes() []api.Op {
	l := []api.Op{math.MinInt, math.MinInt + 1, math.MaxInt, math.MaxInt - 1, math.MinInt32, math.MaxInt32}
	for op := api.Op(-300); op < 1<<16; op++ {
		l = append(l, op)
	}
	for op := range api.Op(256) {
		l = append(l, op+1<<16, op+1<<32, op+math.MinInt, op-1<<32, op|0xfc<<16)
	}
	return l
}

func TestP31NoOperation(t *testing.T) {
	all := specs()
	arg := told{e: api.ErrArg}
	for _, op := range opcodes() {
		for _, x := range [][2]uint64{{0, 0}, {1, 1}, {1 << 31, 1<<32 - 1}, {1 << 63, 0}, {math.MaxUint64, math.MaxUint64}} {
			if all[op].many != 1 && one(op, x[0]) != arg {
				t.Errorf("One(%x, %d): %v", int(op), x[0], one(op, x[0]))
			}
			if all[op].many != 2 && two(op, x[0], x[1]) != arg {
				t.Errorf("Two(%x, %d): %v", int(op), x, two(op, x[0], x[1]))
			}
		}
		if s := all[op]; s.many == 1 && one(op, 1).e != api.OK || s.many == 2 && two(op, 1, 1).e != api.OK {
			t.Errorf("%x, %s is none", int(op), s.what)
		}
	}
}

func bitsOf(op api.Op) [3]int {
	from, to, many := Bits(op)
	return [3]int{from, to, many}
}

func TestP32Examples(t *testing.T) {
	for op, want := range map[api.Op][3]int{
		0xac: {32, 64, 1}, 0xad: {32, 64, 1}, 0xa7: {64, 32, 1}, 0x45: {32, 32, 1}, 0x50: {64, 32, 1}, 0x4f: {32, 32, 2}, 0x51: {64, 32, 2}, 0x5a: {64, 32, 2},
		0x67: {32, 32, 1}, 0x69: {32, 32, 1}, 0x6a: {32, 32, 2}, 0x78: {32, 32, 2}, 0x79: {64, 64, 1}, 0x7b: {64, 64, 1}, 0x7c: {64, 64, 2}, 0x8a: {64, 64, 2},
		0xc0: {32, 32, 1}, 0xc1: {32, 32, 1}, 0xc2: {64, 64, 1}, 0xc4: {64, 64, 1},
		0x44: {}, 0x5b: {}, 0x66: {}, 0x8b: {}, 0xa6: {}, 0xa8: {}, 0xab: {}, 0xae: {}, 0xbf: {}, 0xc5: {}, 0: {}, -1: {}, 0x41: {}, 0xfc00: {}, 0xfb1c: {},
	} {
		if got := bitsOf(op); got != want {
			t.Errorf("Bits(%x): %v, want %v", int(op), got, want)
		}
	}
}

func TestP32All(t *testing.T) {
	all := specs()
	for _, op := range opcodes() {
		if got, want := bitsOf(op), [3]int{all[op].from, all[op].to, all[op].many}; got != want {
			t.Errorf("Bits(%x): %v, want %v", int(op), got, want)
		}
	}
}

// What an operation comes to is of the bits that Bits tells.
func TestP32HoldsOfAnswers(t *testing.T) {
	for op := range specs() {
		_, to, many := Bits(op)
		for _, a := range numbers(true) {
			got := one(op, a)
			if many == 2 {
				got = two(op, a, 3)
			}
			if to == 32 && got.n > math.MaxUint32 {
				t.Errorf("%x, %d: %v", int(op), a, got)
			}
		}
	}
}

// pair has the opcodes of what is of 32 bits, and of 64; mask has the numbers' bits.
type pair struct {
	add, sub, mul, divS, divU, remS, remU, rotl, rotr api.Op
	mask                                              uint64
}

func pairs() []pair {
	return []pair{
		{0x6a, 0x6b, 0x6c, 0x6d, 0x6e, 0x6f, 0x70, 0x77, 0x78, math.MaxUint32},
		{0x7c, 0x7d, 0x7e, 0x7f, 0x80, 0x81, 0x82, 0x89, 0x8a, math.MaxUint64},
	}
}

// each goes over pairs of numbers of each kind.
func each(do func(p pair, a, b uint64)) {
	for _, p := range pairs() {
		var l []uint64
		for _, n := range numbers(true) {
			l = append(l, n&p.mask)
		}
		l = distinct(l)
		for _, a := range l {
			for _, b := range l {
				do(p, a, b)
			}
		}
	}
}

func TestP33Sum(t *testing.T) {
	each(func(p pair, a, b uint64) {
		if sum := two(p.add, a, b); sum.e != api.OK || two(p.sub, sum.n, b) != (told{a, api.OK}) || two(p.sub, sum.n, a) != (told{b, api.OK}) {
			t.Fatalf("%x: %d and %d", int(p.add), a, b)
		}
	})
}

func TestP33Quotient(t *testing.T) {
	each(func(p pair, a, b uint64) {
		for _, ops := range [][2]api.Op{{p.divS, p.remS}, {p.divU, p.remU}} {
			div, rem := two(ops[0], a, b), two(ops[1], a, b)
			if b == 0 {
				if zero := (told{0, api.ErrZero}); div != zero || rem != zero {
					t.Fatalf("%x: %d and %d: %v %v", int(ops[0]), a, b, div, rem)
				}
				continue
			}
			if div.e == api.ErrOver { // there is nothing to multiply then, but what is left is told
				if ops[0] != p.divS || b != p.mask || a != p.mask-p.mask>>1 || rem != (told{}) {
					t.Fatalf("%x: %d and %d: %v %v", int(ops[0]), a, b, div, rem)
				}
				continue
			}
			if back := two(p.add, two(p.mul, b, div.n).n, rem.n); div.e != api.OK || rem.e != api.OK || back != (told{a, api.OK}) {
				t.Fatalf("%x: %d and %d: %v %v", int(ops[0]), a, b, div, rem)
			}
		}
	})
}

func TestP33Turned(t *testing.T) {
	each(func(p pair, a, b uint64) {
		left, right := two(p.rotl, a, b), two(p.rotr, a, b)
		if left.e != api.OK || right.e != api.OK || two(p.rotr, left.n, b) != (told{a, api.OK}) || two(p.rotl, right.n, b) != (told{a, api.OK}) {
			t.Fatalf("%x: %d by %d", int(p.rotl), a, b)
		}
		if rest := two(p.sub, 0, b); two(p.rotl, a, rest.n) != right {
			t.Fatalf("%x: %d by less than %d", int(p.rotl), a, b)
		}
	})
}

func TestP33Wrapped(t *testing.T) {
	for _, n := range numbers(false) {
		a := n & math.MaxUint32
		for _, extend := range []api.Op{0xac, 0xad} {
			if broad := one(extend, a); broad.e != api.OK || one(0xa7, broad.n) != (told{a, api.OK}) {
				t.Errorf("%x: %d", int(extend), a)
			}
		}
		// As signed, what is wrapped and extended is what the low 32 bits stand for.
		if one(0xac, one(0xa7, n).n) != one(0xc4, n) {
			t.Errorf("wrapped: %d", n)
		}
	}
}

// Every call ends, and none panics; with an error there is no number.
func TestP1(t *testing.T) {
	for _, op := range opcodes() {
		for _, a := range []uint64{0, 1, 1 << 31, math.MaxUint32, 1 << 32, 1 << 63, math.MaxUint64} {
			if got := one(op, a); got.e != api.OK && got.n != 0 {
				t.Errorf("One(%x, %d): %v", int(op), a, got)
			}
			for _, b := range []uint64{0, 1, 32, 64, math.MaxUint32, 1 << 32, math.MaxUint64} {
				if got := two(op, a, b); got.e != api.OK && got.n != 0 {
					t.Errorf("Two(%x, %d, %d): %v", int(op), a, b, got)
				}
			}
		}
	}
}
