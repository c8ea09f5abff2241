package matrix_test

import (
	"math"
	"math/big"
	"testing"

	"imageeditor/api"
	"imageeditor/matrix"
)

// random is a xorshift generator; the same numbers in every run.
type random uint64

func (r *random) next() uint64 {
	*r ^= *r << 13
	*r ^= *r >> 7
	*r ^= *r << 17
	return uint64(*r)
}

func (r *random) below(n int) int { return int(r.next() % uint64(n)) }

// within returns a number from -n to n.
func (r *random) within(n int) int { return r.below(2*n+1) - n }

// element returns an element of a valid matrix; style decides of which kind.
func (r *random) element(style int) int {
	switch style {
	case 0:
		return r.within(3)
	case 1:
		return r.within(3) * api.One
	case 2:
		return (2*r.below(2) - 1) * (limit - r.below(3))
	case 3:
		return (2*r.below(2) - 1) << r.below(21)
	case 4:
		return r.within(3)*32768 + r.within(1)
	case 5:
		return r.within(1 << r.below(21))
	case 6:
		return r.below(3) / 2 * r.within(limit)
	}
	return r.within(limit)
}

// valid returns a valid matrix of elements of one kind or of all kinds; some have two rows or columns that are almost the same.
func (r *random) valid() [9]int {
	var m [9]int
	style, mixed := r.below(8), r.below(4) == 0
	for i := range m {
		if mixed {
			style = r.below(8)
		}
		m[i] = r.element(style)
	}
	if r.below(4) == 0 {
		copy(m[3:6], m[:3])
		i := r.below(9)
		m[i] = max(-limit, min(limit, m[i]+r.within(1)))
	}
	if r.below(2) == 0 {
		m = slowTurned(m)
	}
	return m
}

// spoiled returns a matrix that is valid or has elements beyond the limits.
func (r *random) spoiled() [9]int {
	m := r.valid()
	for range r.below(3) {
		m[r.below(9)] = r.number()
	}
	return m
}

// near returns a matrix that is not far from a multiple of the identity, so that it probably has an inverse.
func (r *random) near() [9]int {
	spread := 1 << r.below(20)
	var m [9]int
	for i := range m {
		m[i] = r.within(spread)
		if i%4 == 0 {
			m[i] += (2*r.below(2) - 1) * (4096 << r.below(8))
		}
		m[i] = max(-limit, min(limit, m[i]))
	}
	// Exchanged rows have the same inverse with exchanged columns.
	if i, j := r.below(3), r.below(3); i != j {
		for k := range 3 {
			m[3*i+k], m[3*j+k] = m[3*j+k], m[3*i+k]
		}
	}
	return m
}

// number returns a number at the limits of a matrix or a vector, or any int.
func (r *random) number() int {
	sign := 2*r.below(2) - 1
	switch r.below(6) {
	case 0:
		return sign * (limit + r.within(2))
	case 1:
		return sign * (1<<30 + r.within(2))
	case 2:
		return []int{math.MinInt, math.MinInt + 1, math.MaxInt - 1, math.MaxInt}[r.below(4)]
	case 3:
		return r.within(5)
	}
	return int(r.next()) >> r.below(64)
}

func (r *random) vector() [3]int {
	return [3]int{r.number(), r.number(), r.number()}
}

func whole(n int) *big.Int { return big.NewInt(int64(n)) }

func product(a, b *big.Int) *big.Int { return new(big.Int).Mul(a, b) }

// rounded returns the greatest integer that is at most n/d + 1/2; d is not 0.
func rounded(n, d *big.Int) *big.Int {
	x := new(big.Rat).SetFrac(n, d)
	x.Add(x, big.NewRat(1, 2))
	// The denominator of a fraction is positive, so that the quotient is rounded down.
	return new(big.Int).Div(x.Num(), x.Denom())
}

func slowTurned(m [9]int) [9]int {
	var turned [9]int
	for n := range 9 {
		i, j := n/3, n%3
		turned[3*i+j] = m[3*j+i]
	}
	return turned
}

func slowCheck(m [9]int) api.Errno {
	for _, x := range m {
		if x > 1048576 || x < -1048576 {
			return api.ErrRange
		}
	}
	return api.OK
}

func slowMul(a, b [9]int) [9]int {
	var c [9]int
	if slowCheck(a) != api.OK || slowCheck(b) != api.OK {
		return c
	}
	for i := range 3 {
		for j := range 3 {
			sum := new(big.Int)
			for k := range 3 {
				sum.Add(sum, product(whole(a[3*i+k]), whole(b[3*k+j])))
			}
			c[3*i+j] = int(rounded(sum, whole(65536)).Int64())
		}
	}
	return c
}

// slowLimited returns v with its elements limited to -2^30 to 2^30.
func slowLimited(v [3]int) [3]int {
	for i, x := range v {
		if x < -1073741824 {
			v[i] = -1073741824
		}
		if x > 1073741824 {
			v[i] = 1073741824
		}
	}
	return v
}

func slowApply(m [9]int, v [3]int) [3]int {
	var image [3]int
	if slowCheck(m) != api.OK {
		return image
	}
	v = slowLimited(v)
	for i := range 3 {
		sum := new(big.Int)
		for k := range 3 {
			sum.Add(sum, product(whole(m[3*i+k]), whole(v[k])))
		}
		image[i] = int(rounded(sum, whole(65536)).Int64())
	}
	return image
}

// slowExact returns the exact determinant as the sum over all orders of the columns.
func slowExact(m [9]int) *big.Int {
	sum := new(big.Int)
	for _, p := range [][4]int{{0, 1, 2, 1}, {1, 2, 0, 1}, {2, 0, 1, 1}, {0, 2, 1, -1}, {1, 0, 2, -1}, {2, 1, 0, -1}} {
		term := product(whole(m[p[0]]), product(whole(m[3+p[1]]), whole(m[6+p[2]])))
		sum.Add(sum, product(term, whole(p[3])))
	}
	return sum
}

func slowDet(m [9]int) int {
	if slowCheck(m) != api.OK {
		return 0
	}
	return int(rounded(slowExact(m), whole(1<<32)).Int64())
}

// slowAdjugate returns the element (i, j) of the adjugate, from the elements that are not in row j or column i.
func slowAdjugate(m [9]int, i, j int) *big.Int {
	var rest []*big.Int
	for n, x := range m {
		if n/3 != j && n%3 != i {
			rest = append(rest, whole(x))
		}
	}
	minor := new(big.Int).Sub(product(rest[0], rest[3]), product(rest[1], rest[2]))
	if (i+j)%2 == 1 {
		minor.Neg(minor)
	}
	return minor
}

func slowInverse(m [9]int) ([9]int, api.Errno) {
	var inverse [9]int
	if slowCheck(m) != api.OK {
		return inverse, api.ErrRange
	}
	det := slowExact(m)
	if det.Sign() == 0 {
		return inverse, api.ErrSingular
	}
	for n := range 9 {
		x := rounded(product(slowAdjugate(m, n/3, n%3), whole(1<<32)), det)
		if new(big.Int).Abs(x).Cmp(whole(1048576)) > 0 {
			return [9]int{}, api.ErrSingular
		}
		inverse[n] = int(x.Int64())
	}
	return inverse, api.OK
}

// checkOne compares the functions of one matrix with the model.
func checkOne(t *testing.T, m [9]int) {
	t.Helper()
	if got, want := matrix.Check(m), slowCheck(m); got != want {
		t.Fatalf("Check(%v) = %d, expected %d", m, int(got), int(want))
	}
	if got, want := matrix.Turned(m), slowTurned(m); got != want {
		t.Fatalf("Turned(%v) = %v, expected %v", m, got, want)
	}
	if got, want := matrix.Det(m), slowDet(m); got != want {
		t.Fatalf("Det(%v) = %d, expected %d", m, got, want)
	}
	got, e := matrix.Inverse(m)
	want, f := slowInverse(m)
	if got != want || e != f {
		t.Fatalf("Inverse(%v) = %v, %d; expected %v, %d", m, got, int(e), want, int(f))
	}
}

// P8.1 to P8.5

func TestModelOne(t *testing.T) {
	r := random(81)
	invertible, zero, far, beyond := 0, 0, 0, 0
	for i := range 60000 {
		m := r.valid()
		if i%4 == 0 {
			m = r.spoiled()
		}
		if i%4 == 1 {
			m = r.near()
		}
		checkOne(t, m)
		switch _, e := slowInverse(m); {
		case e == api.OK:
			invertible++
		case e == api.ErrRange:
			beyond++
		case slowExact(m).Sign() == 0:
			zero++
		default:
			far++
		}
	}
	if min(invertible, zero, far, beyond) < 3000 {
		t.Errorf("%d matrices with an inverse, %d with the determinant 0, %d whose inverse is beyond the limits, %d that are not valid", invertible, zero, far, beyond)
	}
}

func TestModelTwo(t *testing.T) {
	r := random(82)
	for i := range 40000 {
		a, b, v := r.valid(), r.valid(), r.vector()
		if i%4 == 0 {
			a = r.spoiled()
		}
		if i%5 == 0 {
			b = r.spoiled()
		}
		if got, want := matrix.Mul(a, b), slowMul(a, b); got != want {
			t.Fatalf("Mul(%v, %v) = %v, expected %v", a, b, got, want)
		}
		if got, want := matrix.Apply(a, v), slowApply(a, v); got != want {
			t.Fatalf("Apply(%v, %v) = %v, expected %v", a, v, got, want)
		}
	}
}

// All matrices whose elements are 0 or at the limits.
func TestModelAtLimits(t *testing.T) {
	least, most := 0, 0
	for n := range 19683 {
		var m [9]int
		for i := range m {
			m[i] = (n%3 - 1) * limit
			n /= 3
		}
		checkOne(t, m)
		least, most = min(least, matrix.Det(m)), max(most, matrix.Det(m))
	}
	// The greatest determinant of a matrix of the numbers 1 and -1 is 4.
	if least != -1<<30 || most != 1<<30 {
		t.Errorf("the determinants are from %d to %d", least, most)
	}
}

// All products of matrices whose elements are in one row and column each and at the limits, and the images of vectors there.
func TestModelSumsAtLimits(t *testing.T) {
	for n := range 4096 {
		var a, b [9]int
		for k := range 3 {
			a[k] = limit - n%4*(limit/2)
			b[3*k] = limit - n/4%4*(2*limit/3)
			n /= 16
		}
		if got, want := matrix.Mul(a, b), slowMul(a, b); got != want {
			t.Fatalf("Mul(%v, %v) = %v, expected %v", a, b, got, want)
		}
		v := [3]int{b[0] * 1024, b[3] * 1024, b[6] * 1024}
		if got, want := matrix.Apply(a, v), slowApply(a, v); got != want {
			t.Fatalf("Apply(%v, %v) = %v, expected %v", a, v, got, want)
		}
	}
}

// P8.6

func TestNeutral(t *testing.T) {
	r := random(86)
	same := matrix.Same()
	for i := range 20000 {
		m, v := r.valid(), r.vector()
		if i%4 == 0 {
			m = r.spoiled()
		}
		want := m
		if slowCheck(m) != api.OK {
			want = [9]int{}
		}
		if left, right := matrix.Mul(same, m), matrix.Mul(m, same); left != want || right != want {
			t.Fatalf("%v times the identity: %v, %v", m, left, right)
		}
		if got := matrix.Apply(same, v); got != slowLimited(v) {
			t.Fatalf("Apply(Same(), %v) = %v", v, got)
		}
	}
}

// P8.7

func TestTransposes(t *testing.T) {
	r := random(87)
	for i := range 20000 {
		a, b := r.valid(), r.valid()
		if i%8 == 0 {
			a = r.spoiled()
		}
		if i%9 == 0 {
			b = r.spoiled()
		}
		left, right := matrix.Turned(matrix.Mul(a, b)), matrix.Mul(matrix.Turned(b), matrix.Turned(a))
		if left != right {
			t.Fatalf("the transpose of %v times %v: %v, %v", a, b, left, right)
		}
		if d, e := matrix.Det(a), matrix.Det(matrix.Turned(a)); d != e {
			t.Fatalf("Det of %v and its transpose: %d, %d", a, d, e)
		}
	}
}

// P8.8

func TestInverseTimesMatrix(t *testing.T) {
	r := random(88)
	count := 0
	for range 20000 {
		m := r.near()
		n, e := matrix.Inverse(m)
		if e != api.OK {
			continue
		}
		count++
		for i := range 3 {
			for j := range 3 {
				// These sums are at most 3 times 2^40.
				sum, bound := 0, 0
				for k := range 3 {
					sum += n[3*i+k] * m[3*k+j]
					bound += max(m[3*k+j], -m[3*k+j])
				}
				if i == j {
					sum -= 1 << 32
				}
				if 2*max(sum, -sum) > bound {
					t.Fatalf("the inverse of %v is %v: (%d, %d) of the product is off by %d", m, n, i, j, sum)
				}
			}
		}
	}
	if count < 5000 {
		t.Errorf("only %d matrices have an inverse", count)
	}
}

// P8.9

func TestDetOfProduct(t *testing.T) {
	r := random(89)
	nonzero := 0
	for range 20000 {
		var a, b [9]int
		for i := range 9 {
			a[i], b[i] = r.within(2)*api.One, r.within(2)*api.One
		}
		d, want := matrix.Det(matrix.Mul(a, b)), matrix.Det(a)*matrix.Det(b)
		if want%api.One != 0 || d != want/api.One {
			t.Fatalf("Det of %v times %v is %d, and of both %d, %d", a, b, d, matrix.Det(a), matrix.Det(b))
		}
		if d != 0 {
			nonzero++
		}
	}
	if nonzero < 5000 {
		t.Errorf("only %d determinants are not 0", nonzero)
	}
}
