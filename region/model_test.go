package region_test

import (
	"math"
	"slices"
	"testing"

	"imageeditor/api"
	"imageeditor/region"
)

// far is the border of the world: its pixels have coordinates from -far to far - 1.
const far = 1 << 20

var world = api.Rect{X: -far, Y: -far, W: 2 * far, H: 2 * far}

func at(x, y, w, h int) api.Rect { return api.Rect{X: x, Y: y, W: w, H: h} }

func list(l ...api.Rect) []api.Rect { return l }

func inWorld(x, y int) bool { return -far <= x && x < far && -far <= y && y < far }

// validSide is what the document says of X and W, or of Y and H of a valid rectangle.
func validSide(at, size int) bool { return -far <= at && at <= far && 0 <= size && size <= far-at }

// hasAll reports whether a pixel is contained in some element of a list, of which all count.
func hasAll(l []api.Rect, x, y int) bool {
	for _, r := range l {
		if validSide(r.X, r.W) && validSide(r.Y, r.H) && r.X <= x && x < r.X+r.W && r.Y <= y && y < r.Y+r.H {
			return true
		}
	}
	return false
}

// has reports whether a pixel is contained in the set of a list, as the document defines it.
func has(l []api.Rect, x, y int) bool {
	if len(l) > 256 {
		l = l[:256]
	}
	return hasAll(l, x, y)
}

// grid divides a part of the plane into cells: columns begin at all of xs but the last, at which they end; likewise the rows.
type grid struct{ xs, ys []int }

// pixels is a grid whose cells are the side by side pixels from (x, y) on.
func pixels(x, y, side int) grid {
	var g grid
	for i := range side + 1 {
		g.xs, g.ys = append(g.xs, x+i), append(g.ys, y+i)
	}
	return g
}

// around is a grid of the pixels that contains the lists of nearList.
func around(o api.Point) grid { return pixels(o.X-12, o.Y-12, 28) }

// lines is a grid in each cell of which all pixels are in the same ones of some valid rectangles.
func lines(lists ...[]api.Rect) grid {
	var g grid
	for _, l := range lists {
		for _, r := range l {
			g.xs, g.ys = append(g.xs, r.X, r.X+r.W), append(g.ys, r.Y, r.Y+r.H)
		}
	}
	slices.Sort(g.xs)
	slices.Sort(g.ys)
	return grid{slices.Compact(g.xs), slices.Compact(g.ys)}
}

// each calls f for the cells, row by row, with their first pixel and their number of pixels.
func (g grid) each(f func(x, y, area int)) {
	for j := 0; j+1 < len(g.ys); j++ {
		for i := 0; i+1 < len(g.xs); i++ {
			f(g.xs[i], g.ys[j], (g.xs[i+1]-g.xs[i])*(g.ys[j+1]-g.ys[j]))
		}
	}
}

// row returns the runs of the cells of row j for which in is true, as their first and last columns (excluded).
func (g grid) row(j int, in func(x, y int) bool) [][2]int {
	var l [][2]int
	inside := false
	for i := 0; i+1 < len(g.xs); i++ {
		was := inside
		inside = in(g.xs[i], g.ys[j])
		if !inside {
			continue
		}
		if !was {
			l = append(l, [2]int{g.xs[i], 0})
		}
		l[len(l)-1][1] = g.xs[i+1]
	}
	return l
}

// canonical returns the canonical list of the pixels of the cells for which in is true of their first pixel.
func (g grid) canonical(in func(x, y int) bool) []api.Rect {
	var l []api.Rect
	for j := 0; j+1 < len(g.ys); {
		runs := g.row(j, in)
		k := j + 1
		for k+1 < len(g.ys) && slices.Equal(g.row(k, in), runs) {
			k++
		}
		for _, r := range runs {
			l = append(l, at(r[0], g.ys[j], r[1]-r[0], g.ys[k]-g.ys[j]))
		}
		j = k
	}
	return l
}

// measure returns the number of the pixels for which in is true, and their bounding box.
func (g grid) measure(in func(x, y int) bool) (int, api.Rect) {
	sum := 0
	left, top, right, bottom := math.MaxInt, math.MaxInt, math.MinInt, math.MinInt
	for j := 0; j+1 < len(g.ys); j++ {
		for i := 0; i+1 < len(g.xs); i++ {
			if in(g.xs[i], g.ys[j]) {
				sum += (g.xs[i+1] - g.xs[i]) * (g.ys[j+1] - g.ys[j])
				left, top, right, bottom = min(left, g.xs[i]), min(top, g.ys[j]), max(right, g.xs[i+1]), max(bottom, g.ys[j+1])
			}
		}
	}
	if sum == 0 {
		return 0, api.Rect{}
	}
	return sum, at(left, top, right-left, bottom-top)
}

// numbers are those at which limits, sums and products end or overflow, and some small ones.
func numbers() []int {
	l := []int{math.MinInt, math.MinInt + 1, math.MinInt + far, math.MinInt / 2, math.MaxInt, math.MaxInt - 1, math.MaxInt - far, math.MaxInt/2 + 1}
	for _, n := range []int{0, 3, far, 2 * far, 1 << 32} {
		l = append(l, n-1, n, n+1, -n-1, -n, 1-n)
	}
	return l
}

// broken are rectangles that are not valid, or empty; many of them would have pixels if a sum overflowed or were not checked.
func broken() []api.Rect {
	return list(
		at(0, 0, 0, 0), at(1, 1, 0, 4), at(1, 1, 4, 0), at(far, far, 0, 0), at(-far, -far, 2*far, 0), at(0, 0, -1, 5), at(0, 0, 5, -1), at(4, 4, -3, -3),
		at(far, 0, 1, 1), at(0, far, 1, 1), at(-far-1, 0, 4, 4), at(0, -far-1, 4, 4), at(-far-1, -far-1, 2*far+2, 2*far+2), at(0, 0, far+1, 2), at(0, 0, 2, far+1),
		at(-far, -far, 2*far+1, 2*far), at(-far, -far, 2*far, 2*far+1), at(0, 0, math.MaxInt, 3), at(0, 0, 3, math.MaxInt), at(1, 1, math.MaxInt, math.MaxInt), at(-2, -2, math.MaxInt, 9),
		at(math.MinInt, math.MinInt, math.MinInt, math.MinInt), at(math.MinInt, 0, math.MaxInt, 3), at(0, math.MinInt, 3, math.MaxInt), at(math.MaxInt, 0, math.MaxInt, 3),
		at(math.MaxInt, 0, math.MinInt, 3), at(0, 0, math.MinInt, 3), at(1<<32, 0, 5, 5), at(0, 0, 1<<32+5, 5), at(0, 0, 5, 1<<32+5), at(math.MinInt, 2, 4, 4), at(2, math.MaxInt, 4, 4),
	)
}

// origins are corners and sides of the world, its center, and the corner of a tile.
func origins() []api.Point {
	return []api.Point{{}, {X: -far, Y: -far}, {X: far, Y: far}, {X: -far, Y: far}, {X: far, Y: -far}, {X: -16, Y: 32}, {X: far, Y: 5}, {X: 5, Y: -far}}
}

// random yields pseudorandom numbers, the same ones in every run.
type random struct{ state uint64 }

func newRandom(seed uint64) *random { return &random{seed * 0x9e3779b97f4a7c15} }

// below returns a number from 0 to n - 1.
func (r *random) below(n int) int {
	r.state ^= r.state << 13
	r.state ^= r.state >> 7
	r.state ^= r.state << 17
	return int((r.state >> 33) % uint64(n))
}

// shuffle changes the order of a list.
func (r *random) shuffle(l []api.Rect) {
	for i := range l {
		j := r.below(i + 1)
		l[i], l[j] = l[j], l[i]
	}
}

// nearList returns n rectangles around o, up to size wide and high, in any order, some of them repeated or broken, or, at the border of the world, beyond it.
func nearList(r *random, o api.Point, n, size int) []api.Rect {
	var l []api.Rect
	for range n {
		e := at(o.X+r.below(size+3)-size/2-1, o.Y+r.below(size+3)-size/2-1, r.below(size+2)-1, r.below(size+2)-1)
		switch r.below(12) {
		case 0:
			e = broken()[r.below(len(broken()))]
		case 1:
			if len(l) > 0 {
				e = l[r.below(len(l))]
			}
		case 2:
			e.W, e.H = 1, 1
		}
		l = append(l, e)
	}
	return l
}

// axis has coordinates from one border of the world to the other.
var axis = []int{-far, 1 - far, -700001, -65536, -17, -16, -1, 0, 1, 15, 16, 999, 65537, 1 << 19, far - 16, far - 1, far}

// farList returns n valid rectangles from one number of the axis to another one.
func farList(r *random, n int) []api.Rect {
	var l []api.Rect
	for range n {
		x, y := r.below(len(axis)-1), r.below(len(axis)-1)
		u, v := x+r.below(min(7, len(axis)-x)), y+r.below(min(7, len(axis)-y))
		l = append(l, at(axis[x], axis[y], axis[u]-axis[x], axis[v]-axis[y]))
	}
	return l
}

// crossed returns n columns and m rows of pixels, with gaps between them.
func crossed(n, m int) (columns, rows []api.Rect) {
	for i := range n {
		columns = append(columns, at(2*i, -1, 1, 2*m+3))
	}
	for i := range m {
		rows = append(rows, at(-3, 2*i+1, 2*n+4, 1))
	}
	return columns, rows
}

// equal compares two lists of rectangles.
func equal(t *testing.T, got, want []api.Rect, what string, args ...any) {
	t.Helper()
	if !slices.Equal(got, want) {
		t.Fatalf("%s of %v: %v, want %v", what, args, got, want)
	}
}

// checkOne compares the functions of one list with its set, whose pixels all lie in the grid.
func checkOne(t *testing.T, l []api.Rect, g grid) {
	t.Helper()
	in := func(x, y int) bool { return has(l, x, y) }
	of := region.Of(l)
	equal(t, of, g.canonical(in), "Of", l)
	if !region.Right(of) {
		t.Fatalf("Right(%v) is false", of)
	}
	if len(of) <= 256 {
		equal(t, region.Of(of), of, "Of", of)
	}
	area, box := g.measure(in)
	if got := region.Area(l); got != area {
		t.Fatalf("Area(%v) is %d, want %d", l, got, area)
	}
	if got := region.Box(l); got != box {
		t.Fatalf("Box(%v) is %v, want %v", l, got, box)
	}
	g.each(func(x, y, _ int) {
		if region.Has(l, api.Point{X: x, Y: y}) != in(x, y) {
			t.Fatalf("Has(%v, {%d %d}) is %v", l, x, y, !in(x, y))
		}
	})
}

// checkTwo compares the functions of two lists with their sets, whose pixels all lie in the grid.
func checkTwo(t *testing.T, a, b []api.Rect, g grid) {
	t.Helper()
	union, common := region.Union(a, b), region.Common(a, b)
	equal(t, union, g.canonical(func(x, y int) bool { return has(a, x, y) || has(b, x, y) }), "Union", a, b)
	equal(t, common, g.canonical(func(x, y int) bool { return has(a, x, y) && has(b, x, y) }), "Common", a, b)
	minus := region.Minus(a, b)
	equal(t, minus, g.canonical(func(x, y int) bool { return has(a, x, y) && !has(b, x, y) }), "Minus", a, b)
	equal(t, region.Union(b, a), union, "Union", b, a)
	equal(t, region.Common(b, a), common, "Common", b, a)
	for _, l := range [][]api.Rect{union, common, minus} {
		if !region.Right(l) {
			t.Fatalf("a result of %v and %v is not canonical: %v", a, b, l)
		}
	}
}
