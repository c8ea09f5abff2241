// Package num implements exact integer arithmetic with stated rounding. See shared/doc/01-num.md.
package num

import (
	"math"
	"math/bits"

	"imageeditor/api"
)

// lerpLimit bounds the ends of Lerp, so that its products fit in an int.
const lerpLimit = 1 << 40

// quarterTurn is the angle from one axis to the next; sines has one entry for each sineStep of it.
const (
	quarterTurn = api.One / 4
	sineStep    = quarterTurn / 64
)

// sines has One times the sines of 0 to 64 sixty-fourths of a quarter turn, rounded.
var sines = [65]int{
	0, 1608, 3216, 4821, 6424, 8022, 9616, 11204, 12785, 14359, 15924, 17479, 19024,
	20557, 22078, 23586, 25080, 26558, 28020, 29466, 30893, 32303, 33692, 35062, 36410, 37736,
	39040, 40320, 41576, 42806, 44011, 45190, 46341, 47464, 48559, 49624, 50660, 51665, 52639,
	53581, 54491, 55368, 56212, 57022, 57798, 58538, 59244, 59914, 60547, 61145, 61705, 62228,
	62714, 63162, 63572, 63944, 64277, 64571, 64827, 65043, 65220, 65358, 65457, 65516, 65536,
}

// Floor returns a divided by b, rounded down, and 0 if b is 0.
func Floor(a, b int) int {
	if b == 0 {
		return 0
	}
	if a == math.MinInt && b == -1 {
		return math.MaxInt
	}
	q := a / b
	if a%b != 0 && (a < 0) != (b < 0) {
		q--
	}
	return q
}

// Div returns a divided by b, rounded to the nearest integer (halves up), and 0 if b is 0.
func Div(a, b int) int {
	return nearest(0, size(a), size(b), (a < 0) != (b < 0))
}

// Clamp returns the lesser of hi and the greater of x and lo.
func Clamp(x, lo, hi int) int {
	return min(hi, max(x, lo))
}

// Mul returns the product of two unit values: a times b divided by Unit, rounded.
func Mul(a, b int) int {
	return Div(unit(a)*unit(b), api.Unit)
}

// Quo returns a times Unit divided by b, rounded and limited to a unit value.
func Quo(a, b int) int {
	return min(api.Unit, Div(unit(a)*api.Unit, unit(b)))
}

// Lerp returns the value between a and b at the unit value t.
func Lerp(a, b, t int) int {
	a = Clamp(a, -lerpLimit, lerpLimit)
	b = Clamp(b, -lerpLimit, lerpLimit)
	t = unit(t)
	return Div(a*(api.Unit-t)+b*t, api.Unit)
}

// Fixed returns the product of two fixed-point numbers.
func Fixed(a, b int) int {
	hi, lo := bits.Mul64(size(a), size(b))
	return nearest(hi, lo, api.One, (a < 0) != (b < 0))
}

// Ratio returns the quotient of two fixed-point numbers.
func Ratio(a, b int) int {
	hi, lo := bits.Mul64(size(a), api.One)
	return nearest(hi, lo, size(b), (a < 0) != (b < 0))
}

// Sqrt returns the integer square root.
func Sqrt(n int) int {
	if n < 0 {
		return 0
	}
	return int(root(0, uint64(n)))
}

// Hypot returns the length of a vector, rounded down.
func Hypot(x, y int) int {
	xh, xl := bits.Mul64(size(x), size(x))
	yh, yl := bits.Mul64(size(y), size(y))
	lo, carry := bits.Add64(xl, yl, 0)
	hi, _ := bits.Add64(xh, yh, carry)
	return int(min(root(hi, lo), math.MaxInt))
}

// Turn returns the sine and cosine of an angle in units of One.
func Turn(angle int) (sin, cos int) {
	// The mask, unlike a remainder, takes negative angles to 0 to One - 1, too.
	a := angle & (api.One - 1)
	return sine(a), sine((a + quarterTurn) & (api.One - 1))
}

// unit limits x to a unit value.
func unit(x int) int {
	return Clamp(x, 0, api.Unit)
}

// size returns the absolute value of x, which for -2^63 is not an int.
func size(x int) uint64 {
	if x < 0 {
		return -uint64(x)
	}
	return uint64(x)
}

// nearest returns the quotient of hi 2^64 + lo and n, negated if neg is true, rounded to the nearest integer (halves up) and saturated, and 0 if n is 0.
func nearest(hi, lo, n uint64, neg bool) int {
	if n == 0 {
		return 0
	}
	if hi >= n {
		return extreme(neg)
	}
	q, r := bits.Div64(hi, lo, n)
	// Before the rounding, because q + 1 may be 2^64.
	if q > math.MaxInt {
		return extreme(neg)
	}
	// Halves go up, so those of a negative quotient leave its size as it is.
	if r > n-r || r == n-r && !neg {
		q++
	}
	if neg {
		return int(-q)
	}
	return int(min(q, math.MaxInt))
}

// extreme returns the least int if neg is true, and otherwise the greatest one.
func extreme(neg bool) int {
	if neg {
		return math.MinInt
	}
	return math.MaxInt
}

// root returns the greatest integer whose square is at most hi 2^64 + lo.
func root(hi, lo uint64) uint64 {
	length := bits.Len64(lo)
	if hi != 0 {
		length = 64 + bits.Len64(hi)
	}
	r := uint64(0)
	for i := (length+1)/2 - 1; i >= 0; i-- {
		t := r | 1<<i
		th, tl := bits.Mul64(t, t)
		if th < hi || th == hi && tl <= lo {
			r = t
		}
	}
	return r
}

// sine returns the sine of an angle from 0 to One - 1.
func sine(a int) int {
	r := a % quarterTurn
	switch a / quarterTurn {
	case 0:
		return quarter(r)
	case 1:
		return quarter(quarterTurn - r)
	case 2:
		return -quarter(r)
	}
	return -quarter(quarterTurn - r)
}

// quarter returns the sine of an angle from 0 to a quarter turn.
func quarter(u int) int {
	if u == quarterTurn {
		return sines[64]
	}
	i := u / sineStep
	return sines[i] + Div((sines[i+1]-sines[i])*(u%sineStep), sineStep)
}
