package num

import (
	"math"
	"math/big"
	"testing"

	"imageeditor/api"
)

// edges are the arguments at which rounding, limiting and saturation begin or end.
func edges() []int {
	l := []int{
		math.MinInt, math.MinInt + 1, math.MinInt + 2, math.MinInt/2 - 1, math.MinInt / 2,
		math.MaxInt, math.MaxInt - 1, math.MaxInt - 2, math.MaxInt/2 + 1, math.MaxInt / 2,
		3037000499, 3037000500, -3037000499, -3037000500,
	}
	for _, n := range []int{1 << 15, 1 << 16, 1 << 17, 1 << 31, 1 << 32, 1 << 40, 1 << 46, 1 << 47, 1 << 48, 1 << 61} {
		l = append(l, n-1, n, n+1, -n-1, -n, -n+1)
	}
	for i := -9; i <= 9; i++ {
		l = append(l, i)
	}
	return append(l, 65534, 16384, 8192, 98304, 21845, 70000, -98304, -70000)
}

// numbers returns pseudorandom arguments of all lengths; the same ones in every run.
func numbers(count int) []int {
	l := make([]int, count)
	state := uint64(0x9e3779b97f4a7c15)
	for i := range l {
		state ^= state << 13
		state ^= state >> 7
		state ^= state << 17
		l[i] = int(state) >> (uint(i*7) % 64)
	}
	return l
}

// pairs calls f with all pairs of edges, and with pseudorandom pairs.
func pairs(f func(a, b int)) {
	l := edges()
	for _, a := range l {
		for _, b := range l {
			f(a, b)
		}
	}
	r := numbers(20000)
	for i, a := range r {
		f(a, r[(i*31+17)%len(r)])
		f(a, l[i%len(l)])
		f(l[i%len(l)], a)
	}
}

func whole(n int) *big.Int { return big.NewInt(int64(n)) }

func times(a, b int) *big.Int { return new(big.Int).Mul(whole(a), whole(b)) }

// saturated limits n to the range of int.
func saturated(n *big.Int) int {
	if n.IsInt64() {
		return int(n.Int64())
	}
	if n.Sign() < 0 {
		return math.MinInt
	}
	return math.MaxInt
}

// down returns n/d rounded down, without a limit; d is not 0.
func down(n, d *big.Int) *big.Int {
	if d.Sign() < 0 {
		n, d = new(big.Int).Neg(n), new(big.Int).Neg(d)
	}
	return new(big.Int).Div(n, d)
}

// near returns floor(n/d + 1/2), saturated, and 0 if d is 0.
func near(n, d *big.Int) int {
	if d.Sign() == 0 {
		return 0
	}
	twice := new(big.Int).Lsh(n, 1)
	return saturated(down(twice.Add(twice, d), new(big.Int).Lsh(d, 1)))
}

// within limits x to lo to hi, where lo is at most hi.
func within(x, lo, hi int) int {
	if x < lo {
		return lo
	}
	if x > hi {
		return hi
	}
	return x
}

// call is a call with two arguments and the result that it must have.
type call struct{ a, b, want int }

func check(t *testing.T, name string, f func(a, b int) int, l []call) {
	t.Helper()
	for _, c := range l {
		if got := f(c.a, c.b); got != c.want {
			t.Errorf("%s(%d, %d) is %d, want %d", name, c.a, c.b, got, c.want)
		}
	}
}

// checkPairs compares f with want for all pairs.
func checkPairs(t *testing.T, name string, f, want func(a, b int) int) {
	t.Helper()
	bad := 0
	pairs(func(a, b int) {
		if bad < 5 && f(a, b) != want(a, b) {
			t.Errorf("%s(%d, %d) is %d, want %d", name, a, b, f(a, b), want(a, b))
			bad++
		}
	})
}

// P1.1

func TestFloor(t *testing.T) {
	check(t, "Floor", Floor, []call{
		{-7, 2, -4}, {7, 2, 3}, {7, -2, -4}, {-7, -2, 3}, {-8, 2, -4}, {8, -2, -4}, {0, -5, 0}, {-1, 5, -1},
		{5, 0, 0}, {-5, 0, 0}, {0, 0, 0}, {math.MinInt, 0, 0},
		{math.MinInt, -1, math.MaxInt}, {math.MinInt, 1, math.MinInt}, {math.MaxInt, -1, -math.MaxInt},
		{1, math.MinInt, -1}, {-1, math.MinInt, 0}, {math.MaxInt, math.MinInt, -1}, {math.MinInt, math.MaxInt, -2},
	})
	checkPairs(t, "Floor", Floor, func(a, b int) int {
		if b == 0 {
			return 0
		}
		return saturated(down(whole(a), whole(b)))
	})
}

func TestDiv(t *testing.T) {
	check(t, "Div", Div, []call{
		{-7, 2, -3}, {7, -2, -3}, {7, 2, 4}, {-7, -2, 4}, {-1, 2, 0}, {1, 2, 1}, {1, -2, 0}, {-1, -2, 1},
		{1, 3, 0}, {2, 3, 1}, {-1, 3, 0}, {-2, 3, -1}, {-3, 2, -1}, {3, 2, 2}, {0, -3, 0},
		{5, 0, 0}, {-5, 0, 0}, {0, 0, 0}, {math.MinInt, 0, 0}, {math.MaxInt, 0, 0},
		{math.MinInt, -1, math.MaxInt}, {math.MinInt, 1, math.MinInt}, {math.MaxInt, 1, math.MaxInt}, {math.MaxInt, -1, -math.MaxInt},
		{math.MaxInt, 2, 1 << 62}, {math.MaxInt, -2, -(1 << 62) + 1}, {math.MinInt, -2, 1 << 62}, {math.MinInt, 2, -1 << 62},
		{math.MinInt, math.MinInt, 1}, {math.MaxInt, math.MinInt, -1}, {math.MinInt, math.MaxInt, -1},
		{1 << 62, math.MinInt, 0}, {1<<62 + 1, math.MinInt, -1}, {-1 << 62, math.MinInt, 1}, {-1<<62 + 1, math.MinInt, 0},
	})
	checkPairs(t, "Div", Div, func(a, b int) int { return near(whole(a), whole(b)) })
}

func TestClamp(t *testing.T) {
	for _, c := range [][4]int{
		{5, 0, 9, 5}, {-5, 0, 9, 0}, {15, 0, 9, 9}, {0, 0, 9, 0}, {9, 0, 9, 9}, {3, 4, 4, 4},
		{5, 9, 3, 3}, {1, 9, 3, 3}, {20, 9, 3, 3},
		{math.MinInt, math.MinInt, math.MaxInt, math.MinInt}, {math.MaxInt, math.MinInt, math.MaxInt, math.MaxInt},
		{0, math.MaxInt, math.MinInt, math.MinInt}, {math.MaxInt, 0, 1, 1}, {math.MinInt, 0, 1, 0},
	} {
		if got := Clamp(c[0], c[1], c[2]); got != c[3] {
			t.Errorf("Clamp(%d, %d, %d) is %d, want %d", c[0], c[1], c[2], got, c[3])
		}
	}
}

// P1.2

func TestMul(t *testing.T) {
	check(t, "Mul", Mul, []call{
		{32768, 32768, 16384}, {-5, 9, 0}, {65535, 70000, 65535}, {70000, 123, 123}, {0, 65535, 0}, {65535, 65535, 65535},
		{1, 32767, 0}, {1, 32768, 1}, {math.MinInt, math.MaxInt, 0}, {math.MaxInt, math.MaxInt, 65535}, {math.MinInt, math.MinInt, 0},
	})
	checkPairs(t, "Mul", Mul, func(a, b int) int {
		return near(times(within(a, 0, 65535), within(b, 0, 65535)), whole(65535))
	})
}

func TestQuo(t *testing.T) {
	check(t, "Quo", Quo, []call{
		{1, 2, 32768}, {5, 3, 65535}, {5, 0, 0}, {0, 0, 0}, {5, -3, 0}, {-5, 3, 0}, {3, 3, 65535}, {1, 3, 21845}, {2, 3, 43690},
		{65535, 70000, 65535}, {1, 70000, 1}, {70000, 65535, 65535}, {math.MinInt, math.MaxInt, 0}, {math.MaxInt, math.MinInt, 0}, {math.MaxInt, 1, 65535},
	})
	checkPairs(t, "Quo", Quo, func(a, b int) int {
		return min(65535, near(times(within(a, 0, 65535), 65535), whole(within(b, 0, 65535))))
	})
}

func TestLerp(t *testing.T) {
	const far = 1 << 40
	for _, c := range [][4]int{
		{0, 10, 32768, 5}, {0, 1, 32767, 0}, {10, 0, 32768, 5}, {0, 1, 32768, 1}, {0, -1, 32768, -1}, {0, -1, 32767, 0},
		{3, 9, 0, 3}, {3, 9, -1, 3}, {3, 9, math.MinInt, 3}, {3, 9, 65535, 9}, {3, 9, 65536, 9}, {3, 9, math.MaxInt, 9},
		{far + 1, 0, 0, far}, {-far - 1, 0, 0, -far}, {0, far + 1, 65535, far}, {0, -far - 1, 65535, -far},
		{math.MinInt, math.MaxInt, 0, -far}, {math.MinInt, math.MaxInt, 65535, far}, {math.MinInt, math.MinInt, 9, -far},
		{-far, far, 32767, -16777472}, {-far, far, 32768, 16777472},
	} {
		if got := Lerp(c[0], c[1], c[2]); got != c[3] {
			t.Errorf("Lerp(%d, %d, %d) is %d, want %d", c[0], c[1], c[2], got, c[3])
		}
	}
	for _, u := range []int{math.MinInt, -1, 0, 1, 2, 21845, 32767, 32768, 65533, 65534, 65535, 65536, math.MaxInt} {
		checkPairs(t, "Lerp", func(a, b int) int { return Lerp(a, b, u) }, func(a, b int) int {
			s := within(u, 0, 65535)
			n := times(within(a, -far, far), 65535-s)
			return near(n.Add(n, times(within(b, -far, far), s)), whole(65535))
		})
	}
}

// P1.3

func TestFixed(t *testing.T) {
	check(t, "Fixed", Fixed, []call{
		{98304, 98304, 147456}, {98304, -98304, -147456}, {-98304, -98304, 147456}, {65536, 7, 7}, {65536, math.MinInt, math.MinInt}, {-65536, math.MaxInt, -math.MaxInt},
		{1, 32768, 1}, {1, 32767, 0}, {1, -32768, 0}, {1, -32769, -1}, {-3, 32768, -1}, {0, math.MinInt, 0},
		{math.MaxInt, 131072, math.MaxInt}, {math.MinInt, 131072, math.MinInt}, {math.MinInt, -65536, math.MaxInt},
		{math.MinInt, math.MinInt, math.MaxInt}, {math.MaxInt, math.MaxInt, math.MaxInt}, {math.MaxInt, math.MinInt, math.MinInt},
		// The rounded quotients are 2^64 and 2^63, just beyond what 64 and 63 bits hold.
		{1<<40 - 1, 1<<40 + 1, math.MaxInt}, {1<<40 - 1, -1<<40 - 1, math.MinInt},
		{1 << 39, 1 << 40, math.MaxInt}, {1 << 39, -1 << 40, math.MinInt}, {math.MaxInt, 65537, math.MaxInt},
	})
	checkPairs(t, "Fixed", Fixed, func(a, b int) int { return near(times(a, b), whole(65536)) })
}

// TestFixedAtSaturation visits the products whose quotients by One lie around 2^63 - 1 and -2^63.
func TestFixedAtSaturation(t *testing.T) {
	limit := new(big.Int).Lsh(big.NewInt(1), 79)
	for _, a := range []int{3, 5, 98304, 1<<20 + 7, 1<<39 + 1, math.MaxInt, math.MaxInt - 4} {
		b := saturated(down(limit, whole(a)))
		for d := -3; d <= 3 && b < math.MaxInt-3; d++ {
			for _, s := range []int{1, -1} {
				if got, want := Fixed(a, s*(b+d)), near(times(a, s*(b+d)), whole(65536)); got != want {
					t.Errorf("Fixed(%d, %d) is %d, want %d", a, s*(b+d), got, want)
				}
			}
		}
	}
}

func TestRatio(t *testing.T) {
	check(t, "Ratio", Ratio, []call{
		{1, 3, 21845}, {1, -2, -32768}, {2, 3, 43691}, {-2, 3, -43691}, {1, 131072, 1}, {-1, 131072, 0}, {1, -131072, 0}, {-1, -131072, 1}, {-3, 131072, -1},
		{math.MinInt, 1, math.MinInt}, {math.MinInt, -1, math.MaxInt}, {math.MaxInt, 1, math.MaxInt}, {math.MaxInt, -1, math.MinInt},
		{math.MaxInt, 65536, math.MaxInt}, {math.MinInt, 65536, math.MinInt}, {math.MinInt, -65536, math.MaxInt}, {math.MinInt, 65535, math.MinInt},
		{1 << 47, 1, math.MaxInt}, {1<<47 - 1, 1, math.MaxInt - 65535}, {-1 << 47, 1, math.MinInt}, {1 << 48, 1, math.MaxInt}, {1 << 48, -1, math.MinInt},
		{5, 0, 0}, {-5, 0, 0}, {0, 0, 0}, {math.MinInt, 0, 0}, {math.MaxInt, 0, 0}, {0, math.MinInt, 0},
		{math.MinInt, math.MinInt, 65536}, {math.MaxInt, math.MinInt, -65536}, {1, math.MinInt, 0},
	})
	checkPairs(t, "Ratio", Ratio, func(a, b int) int { return near(times(a, 65536), whole(b)) })
}

// P1.4 and P1.8

// isRoot reports whether r is the greatest integer whose square is at most n.
func isRoot(r int, n *big.Int) bool {
	next := new(big.Int).Add(whole(r), big.NewInt(1))
	return r >= 0 && times(r, r).Cmp(n) <= 0 && next.Mul(next, next).Cmp(n) > 0
}

func TestSqrt(t *testing.T) {
	for _, c := range [][2]int{
		{24, 4}, {25, 5}, {26, 5}, {0, 0}, {1, 1}, {3, 1}, {4, 2}, {-1, 0}, {-4, 0}, {math.MinInt, 0},
		{math.MaxInt, 3037000499}, {3037000499 * 3037000499, 3037000499}, {3037000499*3037000499 - 1, 3037000498},
	} {
		if got := Sqrt(c[0]); got != c[1] {
			t.Errorf("Sqrt(%d) is %d, want %d", c[0], got, c[1])
		}
	}
	l := append(edges(), numbers(20000)...)
	for i := range 70000 {
		l = append(l, i)
	}
	for i := 1; i < 3037000499; i += i/50 + 1 {
		l = append(l, i*i-1, i*i, i*i+1)
	}
	for _, n := range l {
		if r := Sqrt(n); n < 0 && r != 0 || n >= 0 && !isRoot(r, whole(n)) {
			t.Fatalf("Sqrt(%d) is %d", n, r)
		}
	}
}

func TestHypot(t *testing.T) {
	check(t, "Hypot", Hypot, []call{
		{3, -4, 5}, {0, 0, 0}, {1, 1, 1}, {-5, -12, 13}, {0, -7, 7}, {65536, 65536, 92681},
		{math.MinInt, math.MinInt, math.MaxInt}, {math.MinInt, 0, math.MaxInt}, {math.MaxInt, 0, math.MaxInt}, {math.MaxInt, math.MaxInt, math.MaxInt},
		{math.MaxInt, 1, math.MaxInt}, {1 << 62, 1 << 62, 6521908912666391106}, {3 << 60, 4 << 60, 5 << 60},
	})
	top := whole(math.MaxInt)
	pairs(func(x, y int) {
		r, sum := Hypot(x, y), times(x, x)
		sum.Add(sum, times(y, y))
		if !isRoot(r, sum) && !(r == math.MaxInt && times(r, r).Cmp(sum) <= 0) {
			t.Fatalf("Hypot(%d, %d) is %d", x, y, r)
		}
		ax, ay := new(big.Int).Abs(whole(x)), new(big.Int).Abs(whole(y))
		least := max(saturated(ax), saturated(ay))
		if r < least || whole(r).Cmp(ax.Add(ax, ay)) > 0 || whole(r).Cmp(top) > 0 {
			t.Fatalf("Hypot(%d, %d) is %d, not from %d to the sum", x, y, r, least)
		}
		// The signs and the order do not matter; -x is x for -2^63.
		for _, s := range []int{Hypot(y, x), Hypot(-x, y), Hypot(x, -y), Hypot(-y, -x)} {
			if s != r {
				t.Fatalf("Hypot of %d and %d is %d or %d", x, y, r, s)
			}
		}
	})
}

// P1.5 and P1.9

// straight returns the sine of an angle from 0 to 65535: straight lines between the exact sines of sixty-fourths of a quarter turn.
func straight(a int) int {
	knot := func(i int) int { return int(math.Round(65536 * math.Sin(float64(i)*math.Pi/128))) }
	rising := func(u int) int {
		if u == 16384 {
			return 65536
		}
		lo, hi := knot(u/256), knot(u/256+1)
		return lo + ((hi-lo)*(u%256)+128)/256
	}
	r := a % 16384
	return [4]int{rising(r), rising(16384 - r), -rising(r), -rising(16384 - r)}[a/16384]
}

func TestTurn(t *testing.T) {
	for _, c := range [][3]int{
		{0, 0, 65536}, {16384, 65536, 0}, {32768, 0, -65536}, {49152, -65536, 0}, {65536, 0, 65536}, {-16384, -65536, 0},
		{8192, 46341, 46341}, {128, 804, 65526}, {-128, -804, 65526}, {256, 1608, 65516}, {1, 6, 65536}, {16383, 65536, 6}, {24576, 46341, -46341},
		{math.MinInt, 0, 65536}, {math.MinInt + 16384, 65536, 0}, {math.MaxInt, -6, 65536}, {math.MaxInt - 16383, -65536, 0}, {math.MaxInt - 16384, -65536, -6},
	} {
		if sin, cos := Turn(c[0]); sin != c[1] || cos != c[2] {
			t.Errorf("Turn(%d) is %d and %d, want %d and %d", c[0], sin, cos, c[1], c[2])
		}
	}
	for a := range 65536 {
		sin, cos := Turn(a)
		if sin != straight(a) || cos != straight((a+16384)%65536) {
			t.Fatalf("Turn(%d) is %d and %d, want %d and %d", a, sin, cos, straight(a), straight((a+16384)%65536))
		}
	}
}

func TestTurnTable(t *testing.T) {
	for i := range 65 {
		want := int(math.Round(65536 * math.Sin(float64(i)*math.Pi/128)))
		if sin, _ := Turn(256 * i); sin != want {
			t.Errorf("the sine of %d sixty-fourths of a quarter turn is %d, want %d", i, sin, want)
		}
	}
}

func TestTurnBounds(t *testing.T) {
	for a := range 65536 {
		sin, cos := Turn(a)
		if max(sin, -sin, cos, -cos) > api.One {
			t.Fatalf("Turn(%d) is %d and %d", a, sin, cos)
		}
		if d := sin*sin + cos*cos - api.One*api.One; max(d, -d) > 1<<21 {
			t.Fatalf("the sum of the squares of Turn(%d) differs by %d", a, d)
		}
	}
}

func TestTurnSymmetry(t *testing.T) {
	l := append(edges(), numbers(20000)...)
	for a := range 65536 {
		l = append(l, a)
	}
	for _, a := range l {
		sin, cos := Turn(a)
		if s, c := Turn(-a); s != -sin || c != cos {
			t.Fatalf("Turn(%d) is %d and %d, but of %d it is %d and %d", a, sin, cos, -a, s, c)
		}
		// A whole turn further or, where that is no int, back.
		next := a - 65536
		if a < 0 {
			next = a + 65536
		}
		if s, c := Turn(next); s != sin || c != cos {
			t.Fatalf("Turn(%d) is %d and %d, but of %d it is %d and %d", a, sin, cos, next, s, c)
		}
	}
}

// P1.6

func TestQuotients(t *testing.T) {
	pairs(func(a, b int) {
		if b == 0 || a == math.MinInt && b == -1 {
			return
		}
		q := Floor(a, b)
		rest := new(big.Int).Sub(whole(a), times(b, q))
		if rest.Sign() != 0 && rest.Sign() != whole(b).Sign() || rest.CmpAbs(whole(b)) >= 0 {
			t.Fatalf("Floor(%d, %d) is %d, with the rest %s", a, b, q, rest)
		}
		if d := Div(a, b); d != q && d-1 != q {
			t.Fatalf("Floor(%d, %d) is %d, but Div is %d", a, b, q, d)
		}
	})
}

// P1.7

func TestUnitValues(t *testing.T) {
	pairs(func(a, b int) {
		u, v := within(a, 0, 65535), within(b, 0, 65535)
		m := Mul(a, b)
		if m != Mul(b, a) || m > min(u, v) || m < 0 || Mul(a, api.Unit) != u {
			t.Fatalf("Mul(%d, %d) is %d, Mul(%d, %d) is %d, Mul(%d, Unit) is %d", a, b, m, b, a, Mul(b, a), a, Mul(a, api.Unit))
		}
		if v == 0 {
			return
		}
		// Twice the unit value times the difference, to compare without a quotient.
		if d := Quo(m, b) - u; 2*v*max(d, -d) > api.Unit+2*v {
			t.Fatalf("Quo(Mul(%d, %d), %d) differs from %d by %d", a, b, b, u, d)
		}
	})
}

func TestLerpEnds(t *testing.T) {
	pairs(func(a, b int) {
		a, b = within(a, -1<<40, 1<<40), within(b, -1<<40, 1<<40)
		if Lerp(a, b, 0) != a || Lerp(a, b, api.Unit) != b {
			t.Fatalf("Lerp from %d to %d begins at %d and ends at %d", a, b, Lerp(a, b, 0), Lerp(a, b, api.Unit))
		}
		for _, u := range []int{1, 77, 32767, 32768, 50000, 65534} {
			if x := Lerp(a, b, u); x < min(a, b) || x > max(a, b) {
				t.Fatalf("Lerp(%d, %d, %d) is %d", a, b, u, x)
			}
		}
	})
}
