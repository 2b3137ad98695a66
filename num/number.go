package num

import (
	"math/bits"

	"geode/api"
)

// number is a number of so many bits: n is below 2 to that many. What its methods tell may have more, which the caller cuts off.
type number struct {
	n    uint64
	bits int
}

// low are the low places of n.
func low(n uint64, places int) uint64 { return n << (wide - places) >> (wide - places) }

// signed is what the low places of n stand for as signed: the highest of them is gone on with.
func signed(n uint64, places int) int64 { return int64(n<<(wide-places)) >> (wide - places) }

func fits(n uint64, places int) bool { return low(n, places) == n }

func truth(yes bool) uint64 {
	if yes {
		return 1
	}
	return 0
}

func (a number) itself() uint64   { return a.n }
func (a number) signed() int64    { return signed(a.n, a.bits) }
func (a number) fromByte() uint64 { return uint64(signed(a.n, 8)) }
func (a number) fromHalf() uint64 { return uint64(signed(a.n, 16)) }
func (a number) fromWord() uint64 { return uint64(signed(a.n, 32)) }

// leading leaves out the places that only the word has, not the number.
func (a number) leading() uint64 { return uint64(bits.LeadingZeros64(a.n) - (wide - a.bits)) }

// trailing has a bound, as there are no more places where no bit is 1.
func (a number) trailing() uint64 { return uint64(min(bits.TrailingZeros64(a.n), a.bits)) }

func (a number) ones() uint64 { return uint64(bits.OnesCount64(a.n)) }

// places is by how many places b moves a.
func (a number) places(b number) int { return int(b.n % uint64(a.bits)) }

// turnedUp, like turnedDown, relies on it that a shift by all the places leaves none of the number's own.
func (a number) turnedUp(b number) uint64 {
	by := a.places(b)
	return a.n<<by | a.n>>(a.bits-by)
}

func (a number) turnedDown(b number) uint64 {
	by := a.places(b)
	return a.n>>by | a.n<<(a.bits-by)
}

// bars says why a can't be divided by b.
func (a number) bars(b number) api.Errno {
	if b.n == 0 {
		return api.ErrZero
	}
	return api.OK
}

// barsSigned bars the least number by -1, too, as there is no signed number as great as what that is.
func (a number) barsSigned(b number) api.Errno {
	if b.signed() == -1 && a.n == 1<<(a.bits-1) {
		return api.ErrOver
	}
	return a.bars(b)
}
