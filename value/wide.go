package value

import (
	"math/bits"

	"proctor/api"
)

// wide is a number in two words: neither a sum of many numbers nor a product of two of them wraps in it, so one look at the end tells whether the exact answer is beyond int64.
type wide struct{ high, low uint64 }

func widen(n int64) wide { return wide{uint64(n >> 63), uint64(n)} }

func (a wide) plus(b wide) wide {
	low, carry := bits.Add64(a.low, b.low, 0)
	high, _ := bits.Add64(a.high, b.high, carry)
	return wide{high, low}
}

func (a wide) minus(b wide) wide {
	low, borrow := bits.Sub64(a.low, b.low, 0)
	high, _ := bits.Sub64(a.high, b.high, borrow)
	return wide{high, low}
}

// times leaves out the product of both high words: it lies beyond the two words that are kept.
func (a wide) times(b wide) wide {
	high, low := bits.Mul64(a.low, b.low)
	return wide{high + a.high*b.low + a.low*b.high, low}
}

func (a wide) narrow() (api.Value, api.Errno) {
	n := int64(a.low)
	if widen(n) != a {
		return api.Value{}, api.ErrOverflow
	}
	return number(n), api.OK
}
