// Package num is layer 1: see shared/doc/01-num.md.
package num

import (
	"math"
	"math/bits"

	"turnstile/api"
)

const (
	size = 8           // bytes of a number
	half = 32          // bits of half a number
	mask = 1<<half - 1 // the low half of a number
)

// Add is a + b, if that finds room.
func Add(a, b uint64) (uint64, api.Errno) {
	// a + b would wrap round, so b is held against the room that a leaves.
	if b > math.MaxUint64-a {
		return 0, api.ErrOver
	}
	return a + b, api.OK
}

// Sub is a - b, if that is not below 0.
func Sub(a, b uint64) (uint64, api.Errno) {
	if a < b {
		return 0, api.ErrOver
	}
	return a - b, api.OK
}

// Mul is a times b, if that finds room.
func Mul(a, b uint64) (uint64, api.Errno) {
	high, low := product(a, b)
	if high != 0 {
		return 0, api.ErrOver
	}
	return low, api.OK
}

// Sum is the sum of all of l, if that finds room; of none it is 0.
func Sum(l ...uint64) (uint64, api.Errno) {
	var total uint64
	for _, n := range l {
		next, e := Add(total, n)
		if e != api.OK {
			return 0, e
		}
		total = next
	}
	return total, api.OK
}

// MulDiv is how often c goes into a times b, if that finds room.
func MulDiv(a, b, c uint64) (uint64, api.Errno) {
	if c == 0 {
		return 0, api.ErrArg
	}
	high, low := product(a, b)
	// Each c in the high half is 2^64 of them in the whole.
	if high >= c {
		return 0, api.ErrOver
	}
	quotient, _ := bits.Div64(high, low, c)
	return quotient, api.OK
}

// Rem is what is left of a times b when c has gone into it as often as it can.
func Rem(a, b, c uint64) (uint64, api.Errno) {
	if c == 0 {
		return 0, api.ErrArg
	}
	high, low := product(a, b)
	// Rem64, unlike Div64, ends well where the quotient finds no room.
	return bits.Rem64(high, low, c), api.OK
}

// Put is n as 8 bytes, the highest first.
func Put(n uint64) string {
	var b [size]byte
	for i := range size {
		b[size-1-i] = byte(n >> (8 * i))
	}
	return string(b[:])
}

// Get is the number with which s begins, as Put writes it.
func Get(s string) (uint64, api.Errno) {
	if len(s) < size {
		return 0, api.ErrShort
	}
	var n uint64
	for i := range size {
		n = n<<8 | uint64(s[i])
	}
	return n, api.OK
}

// Int is n as an int, if it finds room there.
func Int(n uint64) (int, api.Errno) {
	if n > math.MaxInt64 {
		return 0, api.ErrOver
	}
	return int(n), api.OK
}

// Of is n as a number, if it is not below 0.
func Of(n int) (uint64, api.Errno) {
	if n < 0 {
		return 0, api.ErrOver
	}
	return uint64(n), api.OK
}

// product is a times b, whole: the high 64 bits and the low 64 bits of it.
func product(a, b uint64) (high, low uint64) {
	aHigh, aLow := a>>half, a&mask
	bHigh, bLow := b>>half, b&mask
	lowest := aLow * bLow
	// At most (2^32 - 1)^2 + 2^32 - 1 each: neither of these sums wraps round.
	middle := aHigh*bLow + lowest>>half
	other := aLow*bHigh + middle&mask
	high = aHigh*bHigh + middle>>half + other>>half
	low = other<<half | lowest&mask
	return high, low
}
