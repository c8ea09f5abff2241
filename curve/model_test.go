package curve_test

import (
	"math"
	"math/big"
	"slices"
	"testing"

	"imageeditor/api"
	"imageeditor/curve"
)

// random is a xorshift generator; the same numbers in every run.
type random uint64

func (r *random) next() uint64 {
	*r ^= *r << 13
	*r ^= *r >> 7
	*r ^= *r << 17
	return uint64(*r)
}

func (r *random) below(n int) int { return int(r.next() % uint64(n)) }

// increasing returns n increasing unit values; they are neighbors, few apart or anywhere.
func (r *random) increasing(n int) []int {
	span := []int{n, n + 4, 3 * n, 300, 65536}[r.below(5)]
	first := r.below(65536 - span + 1)
	list := make([]int, 0, n)
	for len(list) < n {
		if v := first + r.below(span); !slices.Contains(list, v) {
			list = append(list, v)
		}
	}
	slices.Sort(list)
	return list
}

// valid returns a curve that Check accepts, with level, rising and falling pieces.
func (r *random) valid() []api.Knot {
	k := make([]api.Knot, 2+r.below(15))
	span := []int{1, 2, 6, 300, 65536}[r.below(5)]
	lowest := r.below(65536 - span + 1)
	for i, x := range r.increasing(len(k)) {
		k[i] = api.Knot{X: x, Y: lowest + r.below(span)}
	}
	return k
}

// rising returns a rising curve.
func (r *random) rising() []api.Knot {
	k := make([]api.Knot, 2+r.below(15))
	xs, ys := r.increasing(len(k)), r.increasing(len(k))
	for i := range k {
		k[i] = api.Knot{X: xs[i], Y: ys[i]}
	}
	k[0], k[len(k)-1] = api.Knot{}, api.Knot{X: 65535, Y: 65535}
	return k
}

// spoiled returns a rising or a valid curve with up to three other numbers in it, or one of any length.
func (r *random) spoiled() []api.Knot {
	k := r.rising()
	switch r.below(6) {
	case 0:
		k = r.valid()
	case 1:
		k = append(k, r.valid()...)
	case 2:
		k = k[:r.below(len(k)+1)]
	}
	for range min(len(k), r.below(4)) {
		i, v := r.below(len(k)), r.number()
		if r.below(2) == 0 {
			k[i].X = v
		} else {
			k[i].Y = v
		}
	}
	return k
}

// number returns a unit value, or one beside them, or any int.
func (r *random) number() int {
	switch r.below(6) {
	case 0:
		return r.below(7) - 3
	case 1:
		return 65532 + r.below(7)
	case 2:
		return int(r.next()) >> r.below(64)
	}
	return r.below(65536)
}

// near calls f with the numbers at which the pieces of a curve begin and end, with those beside them, with pseudorandom ones and with the farthest ones.
func near(k []api.Knot, r *random, f func(x int)) {
	for _, p := range k {
		for d := -3; d <= 3; d++ {
			f(p.X + d)
			f(p.Y + d)
		}
	}
	for i := 1; i < len(k); i++ {
		f(k[i-1].X + (k[i].X-k[i-1].X)/2)
	}
	for range 20 {
		f(r.number())
	}
	for _, x := range []int{math.MinInt, math.MinInt + 1, -65536, -1, 0, 1, 65534, 65535, 65536, math.MaxInt - 1, math.MaxInt} {
		f(x)
	}
}

func slowUnit(x int) int {
	if x < 0 {
		return 0
	}
	if x > 65535 {
		return 65535
	}
	return x
}

func slowCheck(k []api.Knot) api.Errno {
	switch {
	case len(k) == 0 || len(k) == 1:
		return api.ErrArg
	case len(k) > 16:
		return api.ErrLimit
	}
	last := -1
	for _, p := range k {
		if p.X < 0 || p.X > 65535 || p.Y < 0 || p.Y > 65535 {
			return api.ErrRange
		}
		if p.X <= last {
			return api.ErrOrder
		}
		last = p.X
	}
	return api.OK
}

// rounded returns the greatest integer that is at most a b / c + 1/2.
func rounded(a, b, c int) int {
	product := new(big.Int).Mul(big.NewInt(int64(a)), big.NewInt(int64(b)))
	x := new(big.Rat).SetFrac(product, big.NewInt(int64(c)))
	x.Add(x, big.NewRat(1, 2))
	return int(new(big.Int).Div(x.Num(), x.Denom()).Int64())
}

func slowAt(k []api.Knot, x int) int {
	if slowCheck(k) != api.OK {
		return slowUnit(x)
	}
	if x <= k[0].X {
		return k[0].Y
	}
	for i := 1; i < len(k); i++ {
		if x < k[i].X {
			p, q := k[i-1], k[i]
			return p.Y + rounded(q.Y-p.Y, x-p.X, q.X-p.X)
		}
	}
	return k[len(k)-1].Y
}

func slowRising(k []api.Knot) bool {
	if slowCheck(k) != api.OK || k[0].X != 0 || k[0].Y != 0 {
		return false
	}
	last := -1
	for _, p := range k {
		if p.Y <= last {
			return false
		}
		last = p.Y
	}
	return k[len(k)-1].X == 65535 && last == 65535
}

// all returns the values of a curve at 0 to Unit, by the model.
func all(k []api.Knot) []int {
	list := make([]int, 65536)
	for x := range list {
		list[x] = slowAt(k, x)
	}
	return list
}

// P7.1, P7.3, P7.4

func TestModelCheck(t *testing.T) {
	r := random(71)
	seen := map[api.Errno]int{}
	ups := 0
	for range 30000 {
		k := r.spoiled()
		want := slowCheck(k)
		seen[want]++
		if e := curve.Check(k); e != want {
			t.Fatalf("Check(%v) = %d, expected %d", k, int(e), int(want))
		}
		up := slowRising(k)
		if got := curve.Rising(k); got != up {
			t.Fatalf("Rising(%v) = %v", k, got)
		}
		if up {
			ups++
		} else if want == api.OK {
			want = api.ErrArg
		}
		inverse, e := curve.Inverse(k)
		if e != want {
			t.Fatalf("Inverse(%v) = %d, expected %d", k, int(e), int(want))
		}
		if (e == api.OK) != (len(inverse) > 0) {
			t.Fatalf("Inverse(%v) = %v, %d", k, inverse, int(e))
		}
	}
	for _, e := range []api.Errno{api.OK, api.ErrArg, api.ErrRange, api.ErrLimit, api.ErrOrder} {
		if seen[e] < 100 {
			t.Errorf("only %d curves with the error %d", seen[e], int(e))
		}
	}
	if ups < 1000 || seen[api.OK]-ups < 1000 {
		t.Errorf("%d of %d curves are rising", ups, seen[api.OK])
	}
}

// P7.2, P7.7

func TestModelAt(t *testing.T) {
	r := random(72)
	for range 1500 {
		k := r.valid()
		if r.below(4) == 0 {
			k = r.spoiled()
		}
		near(k, &r, func(x int) {
			if got, want := curve.At(k, x), slowAt(k, x); got != want {
				t.Fatalf("At(%v, %d) = %d, expected %d", k, x, got, want)
			}
		})
	}
}

// Pieces of few columns, whose quotients are just below, at and above one half, on both signs.
func TestModelAtHalves(t *testing.T) {
	up, down := 0, 0
	for width := 1; width <= 14; width++ {
		for rise := -15; rise <= 15; rise++ {
			k := knots(3, 20, 3+width, 20+rise, 40, 0)
			for x := 2; x <= 4+width; x++ {
				if got, want := curve.At(k, x), slowAt(k, x); got != want {
					t.Fatalf("At(%v, %d) = %d, expected %d", k, x, got, want)
				}
				if n := (x - 3) * rise; n%width != 0 && 2*n%width == 0 {
					if n > 0 {
						up++
					} else {
						down++
					}
				}
			}
		}
	}
	if up == 0 || down == 0 {
		t.Errorf("%d positive and %d negative quotients are one half", up, down)
	}
	// In pieces of 65535 columns no quotient is one half, but these are closest to it.
	for _, y := range []int{1, 2, 32766, 32767, 32768, 32769, 65533, 65534, 65535} {
		for _, k := range [][]api.Knot{knots(0, 0, 65535, y), knots(0, y, 65535, 0), knots(0, 65535, 65535, 65535-y)} {
			for _, x := range []int{1, 2, 3, 4, 16383, 16384, 32766, 32767, 32768, 32769, 49151, 49152, 65532, 65533, 65534} {
				if got, want := curve.At(k, x), slowAt(k, x); got != want {
					t.Fatalf("At(%v, %d) = %d, expected %d", k, x, got, want)
				}
			}
		}
	}
}

// P7.5

func TestModelTable(t *testing.T) {
	r := random(75)
	for i := range 600 {
		k := r.valid()
		if r.below(3) == 0 {
			k = r.spoiled()
		}
		n := 2 + r.below(255)
		if i%50 == 0 {
			n = 256
		}
		table, e := curve.Table(k, n)
		if want := slowCheck(k); e != want {
			t.Fatalf("Table(%v, %d) = %d, expected %d", k, n, int(e), int(want))
		}
		if e != api.OK {
			n = 0
		}
		if len(table) != n {
			t.Fatalf("Table(%v, %d) has %d numbers", k, n, len(table))
		}
		for j, got := range table {
			if want := slowAt(k, rounded(j, 65535, n-1)); got != want {
				t.Fatalf("Table(%v, %d) has %d at %d, expected %d", k, n, got, j, want)
			}
		}
	}
}

// P7.6, P7.9

func TestModelBack(t *testing.T) {
	r := random(76)
	curves := rising()
	for range 16 {
		curves = append(curves, r.rising())
	}
	for _, k := range curves {
		values := all(k)
		x := 0
		for y := range 65536 {
			for values[x] < y {
				x++
			}
			if got := curve.Back(k, y); got != x {
				t.Fatalf("Back(%v, %d) = %d, expected %d", k, y, got, x)
			}
		}
		for y, want := range map[int]int{math.MinInt: 0, -65535: 0, -1: 0, 65536: x, 131070: x, math.MaxInt: x} {
			if got := curve.Back(k, y); got != want {
				t.Fatalf("Back(%v, %d) = %d, expected %d", k, y, got, want)
			}
		}
	}
}

func TestModelBackMany(t *testing.T) {
	r := random(77)
	for range 1500 {
		k := r.rising()
		if r.below(8) == 0 {
			k = r.spoiled()
		}
		near(k, &r, func(v int) { checkBack(t, k, v) })
	}
}

// checkBack checks Back at v by its definition; At of a rising curve does not decrease, so that its neighbor decides.
func checkBack(t *testing.T, k []api.Knot, v int) {
	t.Helper()
	x, y := curve.Back(k, v), slowUnit(v)
	if !slowRising(k) {
		if x != -1 {
			t.Fatalf("Back(%v, %d) = %d", k, v, x)
		}
		return
	}
	if x < 0 || x > 65535 || slowAt(k, x) < y || x > 0 && slowAt(k, x-1) >= y {
		t.Fatalf("Back(%v, %d) = %d", k, v, x)
	}
	if curve.At(k, x) < y || x > 0 && curve.At(k, x-1) >= y {
		t.Fatalf("Back(%v, %d) = %d, but At is %d there and %d before", k, v, x, curve.At(k, x), curve.At(k, x-1))
	}
	if back := curve.Back(k, curve.At(k, v)); back < 0 || back > y {
		t.Fatalf("Back(At(%d)) = %d on %v", v, back, k)
	}
}

// P7.7

func TestBounds(t *testing.T) {
	r := random(78)
	for range 1500 {
		k := r.valid()
		low, high, level := 65535, 0, true
		for i, p := range k {
			low, high = min(low, p.Y), max(high, p.Y)
			level = level && (i == 0 || p.Y >= k[i-1].Y)
			if got := curve.At(k, p.X); got != p.Y {
				t.Fatalf("At(%v, %d) = %d, expected %d", k, p.X, got, p.Y)
			}
		}
		near(k, &r, func(x int) {
			got := curve.At(k, x)
			if got < low || got > high {
				t.Fatalf("At(%v, %d) = %d is not between the knots", k, x, got)
			}
			if level && x < math.MaxInt && curve.At(k, x+1) < got {
				t.Fatalf("At(%v, %d) = %d, and %d at the next x", k, x, got, curve.At(k, x+1))
			}
		})
	}
}

func TestNotDecreasing(t *testing.T) {
	r := random(79)
	curves := append(rising(), knots(0, 0, 5, 7, 9, 7, 65535, 65535), knots(100, 7, 200, 9, 300, 9), knots(9, 9, 10, 9))
	for range 20 {
		k := r.valid()
		for i := 1; i < len(k); i++ {
			k[i].Y = max(k[i].Y, k[i-1].Y)
		}
		curves = append(curves, k)
	}
	for _, k := range curves {
		last := 0
		for x := -2; x <= 65537; x++ {
			got := curve.At(k, x)
			if got < last {
				t.Fatalf("At(%v, %d) = %d, less than %d before", k, x, got, last)
			}
			last = got
		}
	}
}

// P7.4, P7.8

func TestInverseTwice(t *testing.T) {
	r := random(80)
	curves := rising()
	for range 3000 {
		curves = append(curves, r.rising())
	}
	for _, k := range curves {
		inverse, e := curve.Inverse(k)
		if e != api.OK || !curve.Rising(inverse) || !slowRising(inverse) || len(inverse) != len(k) {
			t.Fatalf("Inverse(%v) = %v, %d", k, inverse, int(e))
		}
		for i, p := range inverse {
			if p.X != k[i].Y || p.Y != k[i].X {
				t.Fatalf("Inverse(%v) = %v", k, inverse)
			}
		}
		if again, e := curve.Inverse(inverse); e != api.OK || !slices.Equal(again, k) {
			t.Fatalf("Inverse(%v) = %v, %d; expected %v", inverse, again, int(e), k)
		}
	}
}
