package matrix_test

import (
	"math"
	"slices"
	"testing"

	"imageeditor/api"
	"imageeditor/matrix"
)

// limit is the greatest absolute value of an element.
const limit = 1048576

// one is the matrix with the given rows, times One.
func one(m ...int) [9]int {
	var scaled [9]int
	for i, x := range m {
		scaled[i] = x * 65536
	}
	return scaled
}

func diagonal(a, b, c int) [9]int {
	return [9]int{a, 0, 0, 0, b, 0, 0, 0, c}
}

func negative(m [9]int) [9]int {
	for i := range m {
		m[i] = -m[i]
	}
	return m
}

// joined returns the matrix of the elements of a and b.
func joined(a, b []int) [9]int {
	return [9]int(slices.Concat(a, b))
}

// replaced returns m with another element at i.
func replaced(m [9]int, i, x int) [9]int {
	m[i] = x
	return m
}

// same is the identity, written out.
func same() [9]int { return [9]int{65536, 0, 0, 0, 65536, 0, 0, 0, 65536} }

// beyond are the elements that are not valid: those beside the limits and the farthest ones.
func beyond() []int {
	return []int{limit + 1, -limit - 1, 1 << 30, -1 << 30, 1 << 32, -1 << 32, 1 << 62, math.MinInt, math.MinInt + 1, math.MaxInt}
}

// allowed are elements that are valid.
func allowed() []int { return []int{limit, -limit, limit - 1, 1 - limit, 0, 1, -1} }

// P8.1

func TestCheck(t *testing.T) {
	for _, m := range [][9]int{{}, same(), {1, 2, 3, 4, 5, 6, 7, 8, 9}} {
		for i := range 9 {
			for _, x := range allowed() {
				if e := matrix.Check(replaced(m, i, x)); e != api.OK {
					t.Errorf("Check(%v) = %d", replaced(m, i, x), int(e))
				}
			}
			for _, x := range beyond() {
				if e := matrix.Check(replaced(m, i, x)); e != api.ErrRange {
					t.Errorf("Check(%v) = %d", replaced(m, i, x), int(e))
				}
			}
		}
	}
}

func TestSame(t *testing.T) {
	got := matrix.Same()
	if got != same() {
		t.Errorf("Same() = %v", got)
	}
	got[0] = 5
	if matrix.Same() != same() {
		t.Error("a change of the identity stays")
	}
}

func TestTurned(t *testing.T) {
	for _, c := range [][2][9]int{
		{{1, 2, 3, 4, 5, 6, 7, 8, 9}, {1, 4, 7, 2, 5, 8, 3, 6, 9}},
		{{math.MinInt, math.MaxInt, 1 << 40, -1 << 40, limit + 1, -limit - 1, 0, 1, -1}, {math.MinInt, -1 << 40, 0, math.MaxInt, limit + 1, 1, 1 << 40, -limit - 1, -1}},
		{same(), same()},
		{{}, {}},
	} {
		if got := matrix.Turned(c[0]); got != c[1] {
			t.Errorf("Turned(%v) = %v", c[0], got)
		}
		if got := matrix.Turned(c[1]); got != c[0] {
			t.Errorf("Turned(%v) = %v", c[1], got)
		}
	}
}

// Each place of a matrix goes to one place of the transpose.
func TestTurnedPlaces(t *testing.T) {
	for i := range 3 {
		for j := range 3 {
			for _, x := range append(beyond(), allowed()...) {
				if got := matrix.Turned(replaced([9]int{}, 3*i+j, x)); got != replaced([9]int{}, 3*j+i, x) {
					t.Errorf("Turned with %d at (%d, %d) = %v", x, i, j, got)
				}
			}
		}
	}
}

// P8.2

func TestMul(t *testing.T) {
	m, n := one(1, 2, 0, 0, 1, 0, 0, 0, 1), one(1, 0, 0, 3, 1, 0, 0, 0, 1)
	for _, c := range []struct{ a, b, want [9]int }{
		{m, n, one(7, 2, 0, 3, 1, 0, 0, 0, 1)},
		{n, m, one(1, 2, 0, 3, 7, 0, 0, 0, 1)},
		{one(1, 2, 3, 4, 5, 6, 7, 8, 9), one(2, 0, 1, 1, 3, 0, 0, 1, 1), one(4, 9, 4, 13, 21, 10, 22, 33, 16)},
		{m, [9]int{}, [9]int{}},
		{[9]int{}, n, [9]int{}},
		{diagonal(limit, -limit, limit), diagonal(limit, limit, -limit), diagonal(1<<24, -1<<24, -1<<24)},
	} {
		if got := matrix.Mul(c.a, c.b); got != c.want {
			t.Errorf("Mul(%v, %v) = %v, expected %v", c.a, c.b, got, c.want)
		}
	}
}

// A product of valid matrices may have elements that are not valid: they are not limited.
func TestMulOfAllLimits(t *testing.T) {
	var a, want [9]int
	for i := range a {
		a[i], want[i] = limit, 3<<24
	}
	if got := matrix.Mul(a, a); got != want {
		t.Errorf("Mul of all limits = %v", got)
	}
	if got := matrix.Mul(a, negative(a)); got != negative(want) {
		t.Errorf("Mul of all limits and their negatives = %v", got)
	}
	if got := matrix.Apply(a, [3]int{math.MaxInt, 1 << 30, 1 << 30}); got != [3]int{3 << 34, 3 << 34, 3 << 34} {
		t.Errorf("Apply of all limits = %v", got)
	}
	if got := matrix.Apply(negative(a), [3]int{math.MaxInt, 1 << 30, 1 << 30}); got != [3]int{-3 << 34, -3 << 34, -3 << 34} {
		t.Errorf("Apply of all negative limits = %v", got)
	}
}

// sums are three factors and the sum of their products with 1, divided by One and rounded once.
func sums() [][4]int {
	return [][4]int{
		{32767, 0, 0, 0}, {32768, 0, 0, 1}, {32769, 0, 0, 1},
		{-32767, 0, 0, 0}, {-32768, 0, 0, 0}, {-32769, 0, 0, -1},
		{98303, 0, 0, 1}, {98304, 0, 0, 2}, {98305, 0, 0, 2},
		{-98303, 0, 0, -1}, {-98304, 0, 0, -1}, {-98305, 0, 0, -2},
		{10923, 10922, 10922, 0}, {10923, 10923, 10922, 1}, {10923, 10923, 10923, 1},
		{-10923, -10922, -10922, 0}, {-10923, -10923, -10922, 0}, {-10923, -10923, -10923, -1},
		// Rounded one by one, the products would make 2, 3, 0, -3, 0, 0, 0.
		{32768, 32768, 0, 1}, {32768, 32768, 32768, 2}, {32767, 32767, 32767, 1},
		{-32769, -32769, -32769, -2}, {-32768, -32768, 0, -1}, {-32768, -32768, -32768, -1}, {-32767, -32767, -32767, -1},
		{32768, -32768, 0, 0}, {32769, -32768, 1, 0}, {65536, -32769, 0, 0}, {65536, -32768, 0, 1}, {-65536, 32767, 0, -1}, {-65536, 32768, 0, 0},
	}
}

func TestSums(t *testing.T) {
	for _, s := range sums() {
		for turn := range 3 {
			x, y, z := s[turn], s[(turn+1)%3], s[(turn+2)%3]
			for i := range 3 {
				var m, column, want [9]int
				m[3*i], m[3*i+1], m[3*i+2] = x, y, z
				if got := matrix.Apply(m, [3]int{1, 1, 1}); got[i] != s[3] || got[(i+1)%3] != 0 || got[(i+2)%3] != 0 {
					t.Errorf("Apply(%v, 1 1 1) = %v, expected %d at %d", m, got, s[3], i)
				}
				for j := range 3 {
					column[j], column[3+j], column[6+j] = 1, 1, 1
					want[3*i+j] = s[3]
				}
				if got := matrix.Mul(m, column); got != want {
					t.Errorf("Mul(%v, %v) = %v, expected %v", m, column, got, want)
				}
				if got := matrix.Mul(column, matrix.Turned(m)); got != matrix.Turned(want) {
					t.Errorf("Mul(%v, %v) = %v, expected %v", column, matrix.Turned(m), got, matrix.Turned(want))
				}
			}
		}
	}
}

// P8.3

func TestApply(t *testing.T) {
	m := one(1, 2, 0, 0, 1, 0, 0, 0, 1)
	for _, c := range []struct {
		m       [9]int
		v, want [3]int
	}{
		{m, [3]int{10, 20, 30}, [3]int{50, 20, 30}},
		{[9]int{32768}, [3]int{1}, [3]int{1}},
		{[9]int{32768}, [3]int{-1}, [3]int{}},
		{one(1, 2, 3, 4, 5, 6, 7, 8, 9), [3]int{1, -10, 100}, [3]int{281, 554, 827}},
		{[9]int{}, [3]int{7, 8, 9}, [3]int{}},
	} {
		if got := matrix.Apply(c.m, c.v); got != c.want {
			t.Errorf("Apply(%v, %v) = %v, expected %v", c.m, c.v, got, c.want)
		}
	}
}

func TestApplyLimits(t *testing.T) {
	for x, limited := range map[int]int{
		1<<30 - 1: 1<<30 - 1, 1 << 30: 1 << 30, 1<<30 + 1: 1 << 30, 1 << 47: 1 << 30, math.MaxInt - 1: 1 << 30, math.MaxInt: 1 << 30,
		1 - 1<<30: 1 - 1<<30, -1 << 30: -1 << 30, -1<<30 - 1: -1 << 30, -1 << 47: -1 << 30, math.MinInt + 1: -1 << 30, math.MinInt: -1 << 30,
	} {
		for k := range 3 {
			v, want := [3]int{3, 5, 7}, [3]int{3, 5, 7}
			v[k], want[k] = x, limited
			if got := matrix.Apply(same(), v); got != want {
				t.Errorf("Apply(Same(), %v) = %v", v, got)
			}
			sum := want[0] + want[1] + want[2]
			if got := matrix.Apply(one(1, 1, 1), v); got != [3]int{sum, 0, 0} {
				t.Errorf("Apply of a row of One to %v = %v, expected %d", v, got, sum)
			}
		}
	}
}

// P8.2 to P8.5

// notValid calls f with matrices of which one element is not valid.
func notValid(f func(m [9]int)) {
	for _, m := range [][9]int{{}, same(), one(2, 1, 0, 1, 2, 1, 0, 1, 2)} {
		for i := range 9 {
			for _, x := range beyond() {
				f(replaced(m, i, x))
			}
		}
	}
}

func TestNotValid(t *testing.T) {
	notValid(func(m [9]int) {
		for _, n := range [][9]int{same(), one(1, 2, 3, 4, 5, 6, 7, 8, 9), {}, m} {
			if a, b := matrix.Mul(m, n), matrix.Mul(n, m); a != [9]int{} || b != [9]int{} {
				t.Errorf("%v times %v: %v, %v", m, n, a, b)
			}
		}
		for _, v := range [][3]int{{65536, 65536, 65536}, {1 << 30, math.MinInt, math.MaxInt}, {}} {
			if got := matrix.Apply(m, v); got != [3]int{} {
				t.Errorf("Apply(%v, %v) = %v", m, v, got)
			}
		}
		if d := matrix.Det(m); d != 0 {
			t.Errorf("Det(%v) = %d", m, d)
		}
		if n, e := matrix.Inverse(m); n != [9]int{} || e != api.ErrRange {
			t.Errorf("Inverse(%v) = %v, %d", m, n, int(e))
		}
	})
	bad := replaced(same(), 8, math.MinInt)
	if got := matrix.Mul(bad, replaced(same(), 0, math.MaxInt)); got != [9]int{} {
		t.Errorf("Mul of two matrices that are not valid = %v", got)
	}
}

// P8.4

func TestDet(t *testing.T) {
	for _, c := range []struct {
		m    [9]int
		want int
	}{
		{diagonal(131072, 131072, 131072), 524288},
		{diagonal(65536, 32768, 1), 1},
		{diagonal(-65536, 32768, 1), 0},
		{same(), 65536},
		{one(2, 0, 1, 1, 3, 0, 0, 1, 1), 7 * 65536},
		{one(0, 1, 0, 0, 0, 1, 1, 0, 0), 65536},
		{one(0, 1, 0, 1, 0, 0, 0, 0, 1), -65536},
		{one(1, 2, 3, 4, 5, 6, 7, 8, 9), 0},
		{[9]int{}, 0},
		{diagonal(limit, limit, limit), 1 << 28},
		{diagonal(limit, limit, -limit), -1 << 28},
	} {
		if got := matrix.Det(c.m); got != c.want {
			t.Errorf("Det(%v) = %d, expected %d", c.m, got, c.want)
		}
	}
}

// The exact determinants are multiples of half of 2^32, one less and one more.
func TestDetHalves(t *testing.T) {
	for _, c := range []struct{ a, below, at, above int }{
		{0, 0, 0, 0},
		{32768, 0, 1, 1}, {65536, 1, 1, 1}, {98304, 1, 2, 2}, {131072, 2, 2, 2}, {163840, 2, 3, 3},
		{-32768, -1, 0, 0}, {-65536, -1, -1, -1}, {-98304, -2, -1, -1}, {-131072, -2, -2, -2}, {-163840, -3, -2, -2},
	} {
		for d, want := range map[int]int{-1: c.below, 0: c.at, 1: c.above} {
			// The exact determinant is 65536 a + d, also if the rows take turns.
			m := [9]int{c.a, -d, 0, 1, 65536, 0, 0, 0, 1}
			for _, n := range [][9]int{m, joined(m[3:], m[:3]), joined(m[6:], m[:6])} {
				if a, b := matrix.Det(n), matrix.Det(matrix.Turned(n)); a != want || b != want {
					t.Errorf("Det(%v) = %d, of its transpose %d, expected %d", n, a, b, want)
				}
			}
		}
	}
}

// The greatest exact determinants, 2^62 and -2^62, and those beside them.
func TestDetGreatest(t *testing.T) {
	m := [9]int{-limit, limit, limit, limit, -limit, limit, limit, limit, -limit}
	if got := matrix.Det(m); got != 1<<30 {
		t.Errorf("Det(%v) = %d", m, got)
	}
	if got := matrix.Det(negative(m)); got != -1<<30 {
		t.Errorf("Det(%v) = %d", negative(m), got)
	}
	for i := range 9 {
		for d := -1; d <= 1; d += 2 {
			checkOne(t, replaced(m, i, m[i]+d))
			checkOne(t, replaced(negative(m), i, d-m[i]))
			checkOne(t, replaced(m, i, 0))
			checkOne(t, replaced(m, i, -m[i]))
		}
	}
}

// P8.5

// checkInverse checks the inverse of m, and that of its transpose, its negative and its rows and columns in another order.
func checkInverse(t *testing.T, m, want [9]int, e api.Errno) {
	t.Helper()
	if got, f := matrix.Inverse(m); got != want || f != e {
		t.Errorf("Inverse(%v) = %v, %d; expected %v, %d", m, got, int(f), want, int(e))
	}
	if got, f := matrix.Inverse(matrix.Turned(m)); got != matrix.Turned(want) || f != e {
		t.Errorf("Inverse(%v) = %v, %d; expected the transpose of %v, %d", matrix.Turned(m), got, int(f), want, int(e))
	}
	for _, p := range [][3]int{{0, 2, 1}, {1, 0, 2}, {1, 2, 0}, {2, 0, 1}, {2, 1, 0}} {
		var rows, columns [9]int
		for n := range 9 {
			rows[n] = m[3*p[n/3]+n%3]
			columns[n] = want[3*(n/3)+p[n%3]]
		}
		if got, f := matrix.Inverse(rows); got != columns || f != e {
			t.Errorf("Inverse(%v) = %v, %d; expected %v, %d", rows, got, int(f), columns, int(e))
		}
	}
}

func TestInverse(t *testing.T) {
	checkInverse(t, same(), same(), api.OK)
	checkInverse(t, one(1, 2, 0, 0, 1, 0, 0, 0, 1), one(1, -2, 0, 0, 1, 0, 0, 0, 1), api.OK)
	checkInverse(t, one(2, 1, 0, 5, 3, 0, 1, 1, 1), one(3, -1, 0, -5, 2, 0, 2, -1, 1), api.OK)
	checkInverse(t, one(2, 1, 0, 5, 3, 0, 7, 11, 1), [9]int{}, api.ErrSingular)
	checkInverse(t, diagonal(196608, 65536, 65536), diagonal(21845, 65536, 65536), api.OK)
	checkInverse(t, diagonal(-196608, 65536, 65536), diagonal(-21845, 65536, 65536), api.OK)
	checkInverse(t, replaced(same(), 0, limit+1), [9]int{}, api.ErrRange)
}

func TestInverseDetZero(t *testing.T) {
	for _, m := range [][9]int{
		{}, {65536}, diagonal(65536, 65536, 0), one(1, 2, 3, 4, 5, 6, 7, 8, 9), one(1, 2, 3, 2, 4, 6, 3, 6, 9),
		{limit, limit, limit, limit, limit, limit, limit, limit, limit},
		{limit, -limit, limit, -limit, limit, -limit, 1, 2, 3},
		{limit, limit - 1, 3, limit - 1, limit - 2, 5, 1, 1, -2},
	} {
		checkInverse(t, m, [9]int{}, api.ErrSingular)
		checkInverse(t, negative(m), [9]int{}, api.ErrSingular)
	}
}

// With the exact determinant 1 or -1 there is always an element that is too great.
func TestInverseDetOne(t *testing.T) {
	const n = limit - 1
	for _, m := range [][9]int{
		diagonal(1, 1, 1), diagonal(1, -1, 1),
		{n, n - 1, 0, n + 1, n, 0, 0, 0, 1},
		// The cofactors are up to 2^41, and 2^73 is divided.
		{n, n - 1, -limit, n + 1, n, limit, 0, 0, 1},
		{n, n - 1, -limit, n + 1, n, limit, 0, 0, -1},
		// These multiples of 2^32 are multiples of 2^64, too.
		{1, limit, 0, 0, 1, 0, 0, limit, 1},
	} {
		if det := slowExact(m); det.CmpAbs(whole(1)) != 0 {
			t.Errorf("the exact determinant of %v is %v", m, det)
		}
		checkInverse(t, m, [9]int{}, api.ErrSingular)
		checkInverse(t, negative(m), [9]int{}, api.ErrSingular)
	}
}

// The products that are divided are beyond the range of an int.
func TestInverseGreat(t *testing.T) {
	checkInverse(t, diagonal(limit, limit, limit), diagonal(4096, 4096, 4096), api.OK)
	checkInverse(t, diagonal(limit, -limit, limit), diagonal(4096, -4096, 4096), api.OK)
	greatest := [9]int{-limit, limit, limit, limit, -limit, limit, limit, limit, -limit}
	checkInverse(t, greatest, [9]int{0, 2048, 2048, 2048, 0, 2048, 2048, 2048, 0}, api.OK)
	checkInverse(t, negative(greatest), [9]int{0, -2048, -2048, -2048, 0, -2048, -2048, -2048, 0}, api.OK)
	// An element would be 2^24, but 2^72 is 0 in 64 bits.
	checkInverse(t, [9]int{16384, -limit, 0, 0, 16384, 0, 0, 0, limit}, [9]int{}, api.ErrSingular)
	checkInverse(t, [9]int{65536, -limit, 0, 0, 65536, 0, 0, 0, limit}, [9]int{65536, limit, 0, 0, 65536, 0, 0, 0, 4096}, api.OK)
	checkInverse(t, [9]int{65536, limit, 0, 0, 65536, 0, 0, 0, limit}, [9]int{65536, -limit, 0, 0, 65536, 0, 0, 0, 4096}, api.OK)
}

// The element that decides is at 2^20 and -2^20, and less and more than one half and one beyond.
func TestInverseAtLimits(t *testing.T) {
	upper := func(a, x, b int) [9]int { return [9]int{a, x, 0, 0, b, 0, 0, 0, 65536} }
	half := [9]int{4096, 128, 0, 1, 65536, 2, 0, -1024, 65536}
	for _, c := range []struct {
		m           [9]int
		place, want int // want is the rounded element
	}{
		{diagonal(4096, 65536, 65536), 0, limit},
		{diagonal(-4096, 65536, 65536), 0, -limit},
		{diagonal(4095, 65536, 65536), 0, limit + 256},
		{diagonal(-4095, 65536, 65536), 0, -limit - 256},
		{diagonal(4097, 65536, 65536), 0, limit - 256},
		// The exact element is below half a unit beyond, above it, and a whole one.
		{upper(100413, -limit, 42773), 1, limit},
		{upper(100413, limit, 42773), 1, -limit},
		{upper(260096, -limit, 16513), 1, limit + 1},
		{upper(260096, limit, 16513), 1, -limit - 1},
		{upper(61440, -limit, 69905), 1, limit + 1},
		{upper(61440, limit, 69905), 1, -limit - 1},
		// It is exactly half a unit beyond.
		{half, 0, limit + 1},
		{negative(half), 0, -limit},
	} {
		element := rounded(product(slowAdjugate(c.m, c.place/3, c.place%3), whole(1<<32)), slowExact(c.m))
		if element.Cmp(whole(c.want)) != 0 {
			t.Errorf("the element %d of the inverse of %v is %v, expected %d", c.place, c.m, element, c.want)
		}
		want, e := slowInverse(c.m)
		if inside := c.want <= limit && c.want >= -limit; inside != (e == api.OK) || inside && want[c.place] != c.want {
			t.Errorf("the inverse of %v: %v, %d", c.m, want, int(e))
		}
		checkInverse(t, c.m, want, e)
	}
}

// The elements of the inverse are rounded at one half on both signs: 2^32 divided by 2^17 and an odd number.
func TestInverseHalves(t *testing.T) {
	for x, want := range map[int]int{1: 0, -1: 1, 3: -1, -3: 2, 5: -2, -5: 3} {
		m := [9]int{1 << 17, x, 0, 0, 1 << 16, 0, 0, 0, 65536}
		checkInverse(t, m, [9]int{32768, want, 0, 0, 65536, 0, 0, 0, 65536}, api.OK)
	}
}
