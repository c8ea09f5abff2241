package rect_test

import (
	"math"
	"math/big"
	"slices"
	"testing"

	"imageeditor/api"
	"imageeditor/rect"
)

// far is the border of the world: its pixels have coordinates from -far to far - 1.
const far = 1 << 20

var (
	zero  = api.Rect{}
	world = api.Rect{X: -far, Y: -far, W: 2 * far, H: 2 * far}
)

// numbers are those at which limits, sums and products end or overflow, and some small ones.
func numbers() []int {
	l := []int{
		math.MinInt, math.MinInt + 1, math.MinInt + 2, math.MinInt + far, math.MinInt + 2*far, math.MinInt / 2, math.MinInt/2 + 1, math.MinInt / 16,
		math.MaxInt, math.MaxInt - 1, math.MaxInt - 2, math.MaxInt - far, math.MaxInt - 2*far, math.MaxInt/2 + 1, math.MaxInt/16 + 1,
	}
	for _, n := range []int{3, 16, far / 16, far, 2 * far, 1 << 31, 1 << 32} {
		l = append(l, n-1, n, n+1, -n-1, -n, 1-n)
	}
	return append(l, 0, 1, -1)
}

func whole(n int) *big.Int { return big.NewInt(int64(n)) }

func plus(a, b int) *big.Int { return new(big.Int).Add(whole(a), whole(b)) }

// validSide is what the document says of X and W, or of Y and H.
func validSide(at, size int) bool {
	return at >= -far && at <= far && size >= 0 && plus(at, size).Cmp(whole(far)) <= 0
}

func valid(r api.Rect) bool { return validSide(r.X, r.W) && validSide(r.Y, r.H) }

// counted is the rectangle as which an argument counts.
func counted(r api.Rect) api.Rect {
	if !valid(r) {
		return zero
	}
	return r
}

// has is what the document says of a pixel of a valid rectangle.
func has(r api.Rect, x, y int) bool {
	return r.X <= x && x < r.X+r.W && r.Y <= y && y < r.Y+r.H
}

func inWorld(x, y int) bool { return -far <= x && x < far && -far <= y && y < far }

// square is a window of side by side points, in which results are compared point by point.
type square struct{ x, y, side int }

func (s square) each(f func(x, y int)) {
	for y := s.y; y < s.y+s.side; y++ {
		for x := s.x; x < s.x+s.side; x++ {
			f(x, y)
		}
	}
}

// box returns the smallest rectangle that has all points of the window for which in is true, and their number.
func (s square) box(in func(x, y int) bool) (api.Rect, int) {
	left, top, right, bottom, count := math.MaxInt, math.MaxInt, math.MinInt, math.MinInt, 0
	s.each(func(x, y int) {
		if in(x, y) {
			left, top, right, bottom = min(left, x), min(top, y), max(right, x+1), max(bottom, y+1)
			count++
		}
	})
	if count == 0 {
		return zero, 0
	}
	return api.Rect{X: left, Y: top, W: right - left, H: bottom - top}, count
}

// exact returns the rectangle that has just the points of the window for which in is true.
func (s square) exact(t *testing.T, in func(x, y int) bool) api.Rect {
	t.Helper()
	r, count := s.box(in)
	if r.W*r.H != count {
		t.Fatalf("the test's own set is not a rectangle: %v has not %d pixels", r, count)
	}
	return r
}

// origins are corners of the world, its center, and the corner of a tile; windows around them show what is cut.
func origins() []api.Point {
	return []api.Point{{}, {X: -far, Y: -far}, {X: far, Y: far}, {X: -far, Y: far}, {X: far, Y: -far}, {X: -16, Y: 32}, {X: far, Y: 5}, {X: 5, Y: -far}}
}

// around is a window that contains the rectangles near o, also moved by a few pixels.
func around(o api.Point) square { return square{o.X - 9, o.Y - 9, 22} }

// near returns rectangles around o, also those that are empty, too large for the world, or of a negative size.
func near(o api.Point, step int) []api.Rect {
	var l []api.Rect
	for y := -4; y < 4; y += step {
		for x := -4; x < 4; x += step {
			for h := -1; h < 6; h += step {
				for w := -1; w < 6; w += step {
					l = append(l, api.Rect{X: o.X + x, Y: o.Y + y, W: w, H: h})
				}
			}
		}
	}
	return l
}

// broken are rectangles that are not valid; many of them would have pixels if a sum overflowed or were not checked.
func broken() []api.Rect {
	l := []api.Rect{
		{W: -1, H: 3}, {W: 3, H: -1}, {W: -1, H: -1}, {X: 3, Y: 3, W: -3, H: -3}, {X: -far - 1, W: 4, H: 4}, {Y: -far - 1, W: 4, H: 4},
		{X: far + 1, W: 0, H: 0}, {Y: far + 1, W: 0, H: 0}, {X: far, W: 1, H: 1}, {Y: far, W: 1, H: 1}, {W: far + 1, H: 1}, {W: 1, H: far + 1},
		{X: -far, Y: -far, W: 2*far + 1, H: 1}, {X: -far, Y: -far, W: 1, H: 2*far + 1}, {X: -far - 1, Y: -far - 1, W: 2*far + 2, H: 2*far + 2},
		{W: math.MaxInt, H: 1}, {X: 1, W: math.MaxInt, H: 1}, {X: far, W: math.MaxInt, H: math.MaxInt}, {W: 1, H: math.MaxInt}, {W: 1, Y: 1, H: math.MaxInt},
		{X: math.MinInt, Y: math.MinInt, W: math.MinInt, H: math.MinInt}, {X: math.MinInt, W: math.MaxInt, H: 1}, {X: math.MaxInt, W: math.MaxInt, H: 2},
		{X: math.MinInt, W: 5, H: 5}, {X: math.MaxInt, W: 5, H: 5}, {Y: math.MinInt, W: 5, H: 5}, {Y: math.MaxInt, W: 5, H: 5}, {W: math.MinInt, H: math.MinInt},
		{X: math.MaxInt, W: math.MinInt, H: 5}, {X: -2, Y: -2, W: 4, H: math.MaxInt - 2}, {X: 1 << 32, W: 5, H: 5}, {W: 1<<32 + 5, H: 5}, {W: 5, H: 1 << 32},
	}
	return l
}

// mixed are rectangles of all sorts: ordinary, empty, at the borders of the world, and not valid.
func mixed() []api.Rect {
	l := []api.Rect{
		zero, {X: 3, Y: 4}, {X: 1, Y: 1, W: 2}, {X: 1, Y: 1, H: 2}, {X: far, Y: far}, {X: -far, Y: -far, H: 2 * far}, {X: -far, Y: 7, W: 2 * far},
		world, {W: 4, H: 4}, {X: 2, Y: 1, W: 5, H: 2}, {X: 1, Y: 1, W: 2, H: 2}, {X: 4, W: 2, H: 2}, {X: -3, Y: -9, W: 40, H: 70}, {X: 15, Y: 15, W: 2, H: 2},
		{X: -far, Y: -far, W: 1, H: 1}, {X: far - 1, Y: far - 1, W: 1, H: 1}, {X: far - 20, Y: -far, W: 20, H: 33}, {X: -far, Y: far - 5, W: 9, H: 5},
		{X: -far, W: 2 * far, H: 1}, {Y: -far, W: 1, H: 2 * far}, {X: -far, Y: -far, W: far, H: far}, {W: far, H: far}, {X: -1, Y: -1, W: 2, H: 2},
	}
	return append(l, broken()...)
}

// P2.1

func TestValid(t *testing.T) {
	l := numbers()
	for _, at := range l {
		for _, size := range l {
			want := validSide(at, size)
			for _, r := range []api.Rect{{X: at, W: size}, {Y: at, H: size}, {X: at, Y: 5, W: size, H: 6}, {X: -5, Y: at, W: 6, H: size}, {X: at, Y: at, W: size, H: size}} {
				if rect.Valid(r) != want {
					t.Fatalf("Valid(%v) is %v", r, !want)
				}
			}
		}
	}
	for _, r := range []api.Rect{zero, world, {X: far, Y: far}, {X: -far, Y: -far}, {X: far - 1, Y: far - 1, W: 1, H: 1}, {X: -far, W: far, H: far}} {
		if !rect.Valid(r) {
			t.Fatalf("Valid(%v) is false", r)
		}
	}
	for _, r := range broken() {
		if rect.Valid(r) {
			t.Fatalf("Valid(%v) is true", r)
		}
	}
}

func TestEmptyAndArea(t *testing.T) {
	l := numbers()
	for _, w := range l {
		for _, h := range l {
			for _, r := range []api.Rect{{W: w, H: h}, {X: -far, Y: -far, W: w, H: h}, {X: w, Y: h, W: 3, H: 4}, {X: w, Y: 2, W: h, H: 7}, {X: 2, Y: w, W: 7, H: h}} {
				c := counted(r)
				if rect.Empty(r) != (c.W == 0 || c.H == 0) || rect.Area(r) != c.W*c.H {
					t.Fatalf("Empty and Area of %v are %v and %d", r, rect.Empty(r), rect.Area(r))
				}
			}
		}
	}
	if rect.Area(world) != 1<<42 || rect.Empty(world) {
		t.Fatalf("Area of the world is %d", rect.Area(world))
	}
	for _, r := range broken() {
		if !rect.Empty(r) || rect.Area(r) != 0 {
			t.Fatalf("%v is not valid, but has %d pixels", r, rect.Area(r))
		}
	}
}

func TestHas(t *testing.T) {
	l := numbers()
	for _, r := range mixed() {
		c := counted(r)
		points := append([]int{c.X, c.X + c.W, c.X + c.W - 1, c.Y, c.Y + c.H, c.Y + c.H - 1, r.X, r.Y}, l...)
		for _, y := range points {
			for _, x := range points {
				if rect.Has(r, api.Point{X: x, Y: y}) != has(c, x, y) {
					t.Fatalf("Has(%v, {%d %d}) is %v", r, x, y, !has(c, x, y))
				}
			}
		}
	}
	for _, o := range origins() {
		for _, r := range near(o, 1) {
			c := counted(r)
			for _, p := range []api.Point{o, {X: o.X - 1, Y: o.Y - 1}, {X: r.X, Y: r.Y}, {X: r.X + r.W, Y: r.Y}, {X: r.X, Y: r.Y + r.H}, {X: r.X + r.W - 1, Y: r.Y + r.H - 1}, {X: r.X - 1, Y: r.Y}, {X: r.X, Y: r.Y - 1}} {
				if rect.Has(r, p) != has(c, p.X, p.Y) {
					t.Fatalf("Has(%v, %v) is %v", r, p, !has(c, p.X, p.Y))
				}
			}
		}
	}
}

// P2.2

// checkTwo compares Within, Meet, Join and Minus of two rectangles with their points in a window that contains both.
func checkTwo(t *testing.T, a, b api.Rect, s square) {
	t.Helper()
	p, q := counted(a), counted(b)
	meet := s.exact(t, func(x, y int) bool { return has(p, x, y) && has(q, x, y) })
	if got := rect.Meet(a, b); got != meet {
		t.Fatalf("Meet(%v, %v) is %v, want %v", a, b, got, meet)
	}
	join, _ := s.box(func(x, y int) bool { return has(p, x, y) || has(q, x, y) })
	if got := rect.Join(a, b); got != join {
		t.Fatalf("Join(%v, %v) is %v, want %v", a, b, got, join)
	}
	_, outside := s.box(func(x, y int) bool { return has(p, x, y) && !has(q, x, y) })
	if got := rect.Within(a, b); got != (outside == 0) {
		t.Fatalf("Within(%v, %v) is %v", a, b, got)
	}
	if got, want := rect.Minus(a, b), minus(t, p, q, meet, s); !slices.Equal(got, want) {
		t.Fatalf("Minus(%v, %v) is %v, want %v", a, b, got, want)
	}
}

// minus is what the document says of Minus of two valid rectangles in a window that contains both.
func minus(t *testing.T, a, b, meet api.Rect, s square) []api.Rect {
	t.Helper()
	left := func(x, y int) bool { return has(a, x, y) && !has(b, x, y) }
	if meet == zero {
		if r := s.exact(t, left); r != zero {
			return []api.Rect{r}
		}
		return nil
	}
	row := func(y int) bool { return meet.Y <= y && y < meet.Y+meet.H }
	var l []api.Rect
	for _, part := range []func(x, y int) bool{
		func(x, y int) bool { return left(x, y) && y < meet.Y },
		func(x, y int) bool { return left(x, y) && row(y) && x < meet.X },
		func(x, y int) bool { return left(x, y) && row(y) && x >= meet.X },
		func(x, y int) bool { return left(x, y) && y >= meet.Y && !row(y) },
	} {
		if r := s.exact(t, part); r != zero {
			l = append(l, r)
		}
	}
	return l
}

// TestTwo has, on each axis, all the ways in which two rectangles can lie.
func TestTwo(t *testing.T) {
	for _, a := range []api.Rect{{X: 2, Y: 3, W: 4, H: 3}, {X: 4, Y: 4, W: 1, H: 1}, {X: 3, Y: 3, W: 2, H: 5}, {X: 3, Y: 3, W: 0, H: 4}, {X: 3, Y: 3, W: 4, H: 0}, {X: 5, Y: 5, W: -2, H: 2}} {
		for y := range 8 {
			for x := range 8 {
				for h := range 7 {
					for w := range 7 {
						checkTwo(t, a, api.Rect{X: x, Y: y, W: w - 1, H: h - 1}, square{-2, -2, 16})
					}
				}
			}
		}
	}
}

func TestTwoAtBorders(t *testing.T) {
	for _, o := range origins() {
		l := near(o, 3)
		for i, a := range l {
			for j := i % 2; j < len(l); j += 2 {
				checkTwo(t, a, l[j], around(o))
			}
		}
	}
}

func TestTwoOfTheWorld(t *testing.T) {
	for _, c := range []struct{ a, b, meet, join api.Rect }{
		{world, world, world, world},
		{world, api.Rect{X: far, Y: far}, zero, world},
		{world, api.Rect{X: far - 1, Y: -far, W: 1, H: 1}, api.Rect{X: far - 1, Y: -far, W: 1, H: 1}, world},
		{api.Rect{X: -far, Y: -far, W: 1, H: 1}, api.Rect{X: far - 1, Y: far - 1, W: 1, H: 1}, zero, world},
		{api.Rect{X: -far, Y: 3, W: 2 * far, H: 1}, api.Rect{X: 5, Y: -far, W: 1, H: 2 * far}, api.Rect{X: 5, Y: 3, W: 1, H: 1}, world},
		{api.Rect{X: -far, Y: -far, W: far, H: far}, api.Rect{W: far, H: far}, zero, world},
		{api.Rect{X: 9, Y: 9, W: 0, H: 5}, api.Rect{X: 1, Y: 2, W: 3, H: 4}, zero, api.Rect{X: 1, Y: 2, W: 3, H: 4}},
		{api.Rect{X: 9, Y: 9, W: 0, H: 5}, api.Rect{X: 1, Y: 2, W: 3}, zero, zero},
		{api.Rect{W: 4, H: 4}, api.Rect{X: 2, Y: 1, W: 5, H: 2}, api.Rect{X: 2, Y: 1, W: 2, H: 2}, api.Rect{W: 7, H: 4}},
		{api.Rect{W: 2, H: 2}, api.Rect{X: 2, W: 2, H: 2}, zero, api.Rect{W: 4, H: 2}},
	} {
		if m, n := rect.Meet(c.a, c.b), rect.Meet(c.b, c.a); m != c.meet || n != c.meet {
			t.Fatalf("Meet of %v and %v is %v and %v, want %v", c.a, c.b, m, n, c.meet)
		}
		if m, n := rect.Join(c.a, c.b), rect.Join(c.b, c.a); m != c.join || n != c.join {
			t.Fatalf("Join of %v and %v is %v and %v, want %v", c.a, c.b, m, n, c.join)
		}
	}
	for _, r := range mixed() {
		if !rect.Within(r, world) || !rect.Within(r, r) || !rect.Within(zero, r) {
			t.Fatalf("Within of %v and the world, of itself, or of the zero rectangle is false", r)
		}
		if rect.Within(world, r) != (counted(r) == world) {
			t.Fatalf("Within of the world and %v is wrong", r)
		}
		if c := counted(r); c.W > 0 && c.H > 0 && (rect.Within(r, zero) || rect.Within(r, api.Rect{X: 3, Y: 4})) {
			t.Fatalf("Within of %v and an empty rectangle is true", r)
		}
	}
}

// TestNotValid compares the results for a rectangle that is not valid with those for the zero rectangle.
func TestNotValid(t *testing.T) {
	for _, v := range broken() {
		for _, r := range mixed() {
			if rect.Meet(v, r) != zero || rect.Meet(r, v) != zero {
				t.Fatalf("Meet of %v and %v is %v and %v", v, r, rect.Meet(v, r), rect.Meet(r, v))
			}
			if want := rect.Join(r, zero); rect.Join(v, r) != want || rect.Join(r, v) != want {
				t.Fatalf("Join of %v and %v is %v and %v", v, r, rect.Join(v, r), rect.Join(r, v))
			}
			if !rect.Within(v, r) || rect.Within(r, v) != rect.Empty(r) {
				t.Fatalf("Within of %v and %v is %v and %v", v, r, rect.Within(v, r), rect.Within(r, v))
			}
			if len(rect.Minus(v, r)) != 0 || !slices.Equal(rect.Minus(r, v), rect.Minus(r, zero)) {
				t.Fatalf("Minus of %v and %v is %v and %v", v, r, rect.Minus(v, r), rect.Minus(r, v))
			}
		}
		for _, n := range numbers() {
			if rect.Grow(v, n) != zero || rect.Move(v, api.Point{X: n, Y: n}) != zero || rect.Move(v, api.Point{X: n}) != zero || rect.Move(v, api.Point{Y: n}) != zero {
				t.Fatalf("Grow or Move of %v by %d is not the zero rectangle", v, n)
			}
		}
		if len(rect.Tiles(v)) != 0 {
			t.Fatalf("Tiles(%v) is %v", v, rect.Tiles(v))
		}
	}
}

// P2.3

// cut returns the interval from lo to hi (excluded) within the world, as a coordinate and a size.
func cut(lo, hi *big.Int) (at, size int) {
	low, high := whole(-far), whole(far)
	if lo.Cmp(low) > 0 {
		low = lo
	}
	if hi.Cmp(high) < 0 {
		high = hi
	}
	if low.Cmp(high) >= 0 {
		return 0, 0
	}
	return int(low.Int64()), int(new(big.Int).Sub(high, low).Int64())
}

// moved returns the rectangle from (X + x0, Y + y0) to (X + W + x1, Y + H + y1), without limits, cut to the world.
func moved(r api.Rect, x0, y0, x1, y1 *big.Int) api.Rect {
	c := counted(r)
	add := func(a int, b *big.Int) *big.Int { return new(big.Int).Add(whole(a), b) }
	x, w := cut(add(c.X, x0), add(c.X+c.W, x1))
	y, h := cut(add(c.Y, y0), add(c.Y+c.H, y1))
	if w == 0 || h == 0 {
		return zero
	}
	return api.Rect{X: x, Y: y, W: w, H: h}
}

func TestMove(t *testing.T) {
	for _, o := range origins() {
		s := around(o)
		for _, r := range near(o, 1) {
			c := counted(r)
			for _, d := range []api.Point{{}, {X: 1}, {X: -1}, {Y: 1}, {Y: -1}, {X: 2, Y: -1}, {X: -1, Y: 2}} {
				want := s.exact(t, func(x, y int) bool { return inWorld(x, y) && has(c, x-d.X, y-d.Y) })
				if got := rect.Move(r, d); got != want {
					t.Fatalf("Move(%v, %v) is %v, want %v", r, d, got, want)
				}
			}
		}
	}
}

func TestMoveFar(t *testing.T) {
	l := numbers()
	for _, r := range mixed() {
		for _, dy := range l {
			for _, dx := range l {
				x, y := whole(dx), whole(dy)
				d := api.Point{X: dx, Y: dy}
				if got, want := rect.Move(r, d), moved(r, x, y, x, y); got != want {
					t.Fatalf("Move(%v, %v) is %v, want %v", r, d, got, want)
				}
			}
		}
	}
	for _, c := range []struct {
		r    api.Rect
		d    api.Point
		want api.Rect
	}{
		{api.Rect{X: -far, W: 3, H: 1}, api.Point{X: -1}, api.Rect{X: -far, W: 2, H: 1}},
		{api.Rect{X: -far, W: 3, H: 1}, api.Point{X: -2}, api.Rect{X: -far, W: 1, H: 1}},
		{api.Rect{X: -far, W: 3, H: 1}, api.Point{X: -3}, zero},
		{api.Rect{X: -far, Y: -far, W: 1, H: 1}, api.Point{X: 2*far - 1, Y: 2*far - 1}, api.Rect{X: far - 1, Y: far - 1, W: 1, H: 1}},
		{api.Rect{X: -far, Y: -far, W: 1, H: 1}, api.Point{X: 2 * far}, zero},
		{api.Rect{X: far - 1, Y: far - 1, W: 1, H: 1}, api.Point{X: 1 - 2*far, Y: 1 - 2*far}, api.Rect{X: -far, Y: -far, W: 1, H: 1}},
		{api.Rect{X: far - 1, Y: far - 1, W: 1, H: 1}, api.Point{Y: -2 * far}, zero},
		{world, api.Point{X: 1, Y: -far}, api.Rect{X: 1 - far, Y: -far, W: 2*far - 1, H: far}},
		{world, api.Point{X: 2*far - 1}, api.Rect{X: far - 1, Y: -far, W: 1, H: 2 * far}},
	} {
		if got := rect.Move(c.r, c.d); got != c.want {
			t.Fatalf("Move(%v, %v) is %v, want %v", c.r, c.d, got, c.want)
		}
	}
}

func TestGrow(t *testing.T) {
	for _, o := range origins() {
		s := around(o)
		for _, r := range near(o, 2) {
			c := counted(r)
			for n := range 4 {
				// A pixel is near enough if one of the points around it is in r.
				want := s.exact(t, func(x, y int) bool {
					_, count := square{x - n, y - n, 2*n + 1}.box(func(x, y int) bool { return has(c, x, y) })
					return inWorld(x, y) && count > 0
				})
				if got := rect.Grow(r, n); got != want {
					t.Fatalf("Grow(%v, %d) is %v, want %v", r, n, got, want)
				}
			}
			for n := -4; n < 0; n++ {
				want := api.Rect{X: c.X - n, Y: c.Y - n, W: c.W + 2*n, H: c.H + 2*n}
				if want.W <= 0 || want.H <= 0 {
					want = zero
				}
				if got := rect.Grow(r, n); got != want {
					t.Fatalf("Grow(%v, %d) is %v, want %v", r, n, got, want)
				}
			}
		}
	}
}

func TestGrowFar(t *testing.T) {
	for _, r := range mixed() {
		for _, n := range numbers() {
			want := zero
			if c := counted(r); c.W > 0 && c.H > 0 {
				less, more := new(big.Int).Neg(whole(n)), whole(n)
				want = moved(r, less, less, more, more)
			}
			if got := rect.Grow(r, n); got != want {
				t.Fatalf("Grow(%v, %d) is %v, want %v", r, n, got, want)
			}
		}
	}
	one := api.Rect{X: -far, Y: -far, W: 1, H: 1}
	for _, c := range []struct {
		r    api.Rect
		n    int
		want api.Rect
	}{
		{api.Rect{W: 2, H: 2}, 1, api.Rect{X: -1, Y: -1, W: 4, H: 4}},
		{api.Rect{W: 5, H: 5}, -2, api.Rect{X: 2, Y: 2, W: 1, H: 1}},
		{api.Rect{W: 4, H: 4}, -2, zero},
		{api.Rect{W: 4, H: 9}, -2, zero}, {api.Rect{W: 9, H: 4}, -2, zero}, {api.Rect{W: 9, H: 3}, -2, zero}, {api.Rect{W: 2, H: 2}, -2, zero},
		{api.Rect{X: 3, Y: 5, W: 9, H: 5}, -2, api.Rect{X: 5, Y: 7, W: 5, H: 1}},
		{api.Rect{X: 5, Y: 5}, 3, zero}, {api.Rect{X: 5, Y: 5, W: 2}, 3, zero}, {api.Rect{X: 5, Y: 5, H: 2}, math.MaxInt, zero}, {api.Rect{X: 5, Y: 5, H: 2}, -1, zero},
		{one, 2*far - 2, api.Rect{X: -far, Y: -far, W: 2*far - 1, H: 2*far - 1}},
		{one, 2*far - 1, world}, {one, math.MaxInt, world}, {api.Rect{X: 7, Y: -7, W: 1, H: 1}, math.MaxInt, world}, {world, math.MaxInt, world},
		{world, 1 - far, api.Rect{X: -1, Y: -1, W: 2, H: 2}}, {world, -far, zero}, {world, math.MinInt, zero}, {world, math.MinInt / 2, zero},
		{api.Rect{X: 1 - far, Y: 0, W: 2, H: 2}, 3, api.Rect{X: -far, Y: -3, W: 6, H: 8}},
		{api.Rect{X: 0, Y: far - 2, W: 2, H: 2}, 3, api.Rect{X: -3, Y: far - 5, W: 8, H: 5}},
	} {
		if got := rect.Grow(c.r, c.n); got != c.want {
			t.Fatalf("Grow(%v, %d) is %v, want %v", c.r, c.n, got, c.want)
		}
	}
}

// P2.4

func TestMinus(t *testing.T) {
	a := api.Rect{W: 4, H: 4}
	for _, c := range []struct {
		a, b api.Rect
		want []api.Rect
	}{
		{a, api.Rect{X: 1, Y: 1, W: 2, H: 2}, []api.Rect{{W: 4, H: 1}, {Y: 1, W: 1, H: 2}, {X: 3, Y: 1, W: 1, H: 2}, {Y: 3, W: 4, H: 1}}},
		{a, a, nil},
		{a, world, nil},
		{a, zero, []api.Rect{a}},
		{a, api.Rect{X: 1, Y: 1, W: 0, H: 2}, []api.Rect{a}},
		{a, api.Rect{X: 1, Y: 1, W: 2, H: 0}, []api.Rect{a}},
		{a, api.Rect{X: 1, Y: 1, W: 2, H: -2}, []api.Rect{a}},
		{a, api.Rect{X: 4, W: 2, H: 4}, []api.Rect{a}},
		{zero, a, nil},
		{zero, zero, nil},
		{api.Rect{X: 1, Y: 1, W: 2}, a, nil},
		{api.Rect{X: 9, Y: 9, H: 2}, a, nil},
		{api.Rect{X: far, W: 1, H: 1}, a, nil},
		{world, a, []api.Rect{{X: -far, Y: -far, W: 2 * far, H: far}, {X: -far, W: far, H: 4}, {X: 4, W: far - 4, H: 4}, {X: -far, Y: 4, W: 2 * far, H: far - 4}}},
		{world, api.Rect{X: -far, Y: -far, W: 1, H: 1}, []api.Rect{{X: 1 - far, Y: -far, W: 2*far - 1, H: 1}, {X: -far, Y: 1 - far, W: 2 * far, H: 2*far - 1}}},
		{world, api.Rect{X: far - 1, Y: far - 1, W: 1, H: 1}, []api.Rect{{X: -far, Y: -far, W: 2 * far, H: 2*far - 1}, {X: -far, Y: far - 1, W: 2*far - 1, H: 1}}},
	} {
		if got := rect.Minus(c.a, c.b); !slices.Equal(got, c.want) {
			t.Fatalf("Minus(%v, %v) is %v, want %v", c.a, c.b, got, c.want)
		}
	}
}

// P2.5

func TestOfTile(t *testing.T) {
	l := append(numbers(), math.MinInt/16-1, math.MinInt/16+1, math.MaxInt/16, math.MaxInt/16+2, math.MinInt/8, math.MaxInt/8+1, math.MaxInt/8+2, far/16+5, -far/16-5)
	inside := func(n int) bool { return -far/16 <= n && n < far/16 }
	for _, y := range l {
		for _, x := range l {
			want := zero
			if inside(x) && inside(y) {
				want = api.Rect{X: 16 * x, Y: 16 * y, W: 16, H: 16}
			}
			if got := rect.OfTile(api.Point{X: x, Y: y}); got != want {
				t.Fatalf("OfTile({%d %d}) is %v, want %v", x, y, got, want)
			}
		}
	}
	for _, c := range []struct {
		p    api.Point
		want api.Rect
	}{
		{api.Point{}, api.Rect{W: 16, H: 16}},
		{api.Point{X: -1, Y: 2}, api.Rect{X: -16, Y: 32, W: 16, H: 16}},
		{api.Point{X: 65535}, api.Rect{X: 1048560, W: 16, H: 16}},
		{api.Point{X: 65536}, zero}, {api.Point{Y: 65536}, zero}, {api.Point{X: -65537}, zero}, {api.Point{Y: -65537}, zero},
		{api.Point{X: -65536, Y: -65536}, api.Rect{X: -far, Y: -far, W: 16, H: 16}},
	} {
		if got := rect.OfTile(c.p); got != c.want {
			t.Fatalf("OfTile(%v) is %v, want %v", c.p, got, c.want)
		}
	}
}

// checkTiles compares the tiles of a valid rectangle with those of a square of them around the tile of o that meet it.
func checkTiles(t *testing.T, r api.Rect, o api.Point) {
	t.Helper()
	var want []api.Point
	tile := func(n int) int { return (n + far) >> 4 }
	square{tile(o.X) - 4, tile(o.Y) - 4, 10}.each(func(x, y int) {
		left, top := 16*x-far, 16*y-far
		if r.W > 0 && r.H > 0 && left < r.X+r.W && r.X < left+16 && top < r.Y+r.H && r.Y < top+16 {
			want = append(want, api.Point{X: x - far/16, Y: y - far/16})
		}
	})
	if got := rect.Tiles(r); !slices.Equal(got, want) {
		t.Fatalf("Tiles(%v) is %v, want %v", r, got, want)
	}
}

func TestTiles(t *testing.T) {
	for _, o := range origins() {
		for at := -33; at <= 33; at++ {
			for size := range 34 {
				for _, d := range [][2]int{{0, 1}, {-1, 2}, {-16, 33}, {-17, 17}, {3, 0}} {
					for _, r := range []api.Rect{{X: o.X + at, Y: o.Y + d[0], W: size, H: d[1]}, {X: o.X + d[0], Y: o.Y + at, W: d[1], H: size}} {
						checkTiles(t, counted(r), o)
					}
				}
			}
		}
	}
	got, want := rect.Tiles(api.Rect{X: -1, Y: 15, W: 2, H: 2}), []api.Point{{X: -1}, {}, {X: -1, Y: 1}, {Y: 1}}
	if !slices.Equal(got, want) {
		t.Fatalf("Tiles is %v, want %v", got, want)
	}
}

func TestTilesLimit(t *testing.T) {
	for _, c := range []struct {
		r    api.Rect
		want int
	}{
		{api.Rect{W: 1024, H: 1024}, 4096}, {api.Rect{X: -1024, Y: -1024, W: 1024, H: 1024}, 4096},
		{api.Rect{X: 1, W: 1024, H: 1024}, 0}, {api.Rect{Y: -1, W: 1024, H: 1024}, 0}, {api.Rect{W: 1025, H: 1024}, 0}, {api.Rect{W: 1024, H: 1025}, 0},
		{api.Rect{W: 65536, H: 16}, 4096}, {api.Rect{W: 65537, H: 1}, 0}, {api.Rect{W: 16, H: 65536}, 4096}, {api.Rect{W: 1, H: 65537}, 0},
		{api.Rect{W: 17 * 16, H: 241 * 16}, 0}, {api.Rect{W: 15 * 16, H: 273 * 16}, 4095},
		{api.Rect{X: -far, Y: -far, W: 65536, H: 16}, 4096}, {api.Rect{X: far - 65536, Y: far - 16, W: 65536, H: 16}, 4096},
		{world, 0}, {api.Rect{X: -far, W: 2 * far, H: 1}, 0}, {api.Rect{Y: -far, W: 1, H: 2 * far}, 0}, {api.Rect{X: -far, Y: -far, W: far, H: far}, 0},
		{api.Rect{X: far - 1, Y: far - 1, W: 1, H: 1}, 1}, {api.Rect{X: -far, Y: -far, W: 1, H: 1}, 1},
		{zero, 0}, {api.Rect{X: 5, Y: 5, W: 0, H: 3}, 0}, {api.Rect{X: 5, Y: 5, W: 3}, 0}, {api.Rect{X: far, Y: far}, 0},
	} {
		l := rect.Tiles(c.r)
		if len(l) != c.want {
			t.Fatalf("Tiles(%v) are %d, want %d", c.r, len(l), c.want)
		}
		for i, p := range l {
			if rect.Empty(rect.Meet(rect.OfTile(p), c.r)) || i > 0 && (l[i-1].Y > p.Y || l[i-1].Y == p.Y && l[i-1].X >= p.X) {
				t.Fatalf("Tiles(%v) has %v at %d", c.r, p, i)
			}
		}
	}
}

// P2.6

func TestMeetLaws(t *testing.T) {
	l := mixed()
	for _, a := range l {
		c := counted(a)
		if c.W == 0 || c.H == 0 {
			c = zero
		}
		if got := rect.Meet(a, a); got != c {
			t.Fatalf("Meet of %v with itself is %v", a, got)
		}
		for _, b := range l {
			m := rect.Meet(a, b)
			if m != rect.Meet(b, a) {
				t.Fatalf("Meet of %v and %v is not commutative", a, b)
			}
			if rect.Meet(m, b) != m || rect.Meet(m, m) != m {
				t.Fatalf("Meet of %v and %v is not idempotent", a, b)
			}
			if got := rect.Meet(a, rect.Join(a, b)); got != c {
				t.Fatalf("Meet of %v and its Join with %v is %v", a, b, got)
			}
			for _, d := range l {
				if rect.Meet(m, d) != rect.Meet(a, rect.Meet(b, d)) {
					t.Fatalf("Meet of %v, %v and %v is not associative", a, b, d)
				}
			}
		}
	}
}

// P2.7

func TestMinusLaws(t *testing.T) {
	for _, a := range mixed() {
		for _, b := range mixed() {
			l := rect.Minus(a, b)
			sum := rect.Area(rect.Meet(a, b))
			for i, r := range l {
				if rect.Empty(r) || !rect.Within(r, a) || rect.Meet(r, b) != zero {
					t.Fatalf("Minus(%v, %v) has %v", a, b, r)
				}
				for _, s := range l[:i] {
					if rect.Meet(r, s) != zero {
						t.Fatalf("Minus(%v, %v) has %v and %v", a, b, r, s)
					}
				}
				sum += rect.Area(r)
			}
			if sum != rect.Area(a) {
				t.Fatalf("Minus(%v, %v) and Meet have %d pixels, not %d", a, b, sum, rect.Area(a))
			}
		}
	}
}

// P2.8

func TestTilesLaw(t *testing.T) {
	l := append(mixed(), api.Rect{X: -1000, Y: 777, W: 1003, H: 999}, api.Rect{X: far - 1000, Y: far - 999, W: 1000, H: 999}, api.Rect{X: -far, Y: -far, W: 50, H: 16 * 1024})
	for _, r := range l {
		tiles := rect.Tiles(r)
		sum := 0
		for _, p := range tiles {
			sum += rect.Area(rect.Meet(rect.OfTile(p), r))
		}
		if len(tiles) > 0 && sum != rect.Area(r) {
			t.Fatalf("Tiles(%v) have %d pixels in common with it, which has %d", r, sum, rect.Area(r))
		}
	}
}

// P2.9

func TestMoveBack(t *testing.T) {
	l := numbers()
	count := 0
	for _, r := range mixed() {
		for _, dy := range l {
			for _, dx := range l {
				m := rect.Move(r, api.Point{X: dx, Y: dy})
				if m == zero || rect.Area(m) != rect.Area(r) {
					continue
				}
				count++
				if got := rect.Move(m, api.Point{X: -dx, Y: -dy}); got != r {
					t.Fatalf("Move of %v by {%d %d} and back is %v", r, dx, dy, got)
				}
			}
		}
	}
	if count < 1000 {
		t.Fatalf("only %d moves were not cut", count)
	}
}

// TestNewMemory changes results: those of other calls must not follow (R5).
func TestNewMemory(t *testing.T) {
	a, b := api.Rect{W: 4, H: 4}, api.Rect{X: 1, Y: 1, W: 2, H: 2}
	l, p := rect.Minus(a, b), rect.Tiles(a)
	l[0], p[0] = b, api.Point{X: 9}
	if rect.Minus(a, b)[0] != (api.Rect{W: 4, H: 1}) || rect.Tiles(a)[0] != (api.Point{}) {
		t.Error("two results share memory")
	}
}
