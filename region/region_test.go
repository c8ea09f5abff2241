package region_test

import (
	"math"
	"slices"
	"testing"

	"imageeditor/api"
	"imageeditor/rect"
	"imageeditor/region"
)

// P3.1

func TestOf(t *testing.T) {
	for _, c := range []struct{ l, want []api.Rect }{
		{nil, nil},
		{list(), nil},
		{list(at(0, 0, 2, 2), at(1, 1, 2, 2)), list(at(0, 0, 2, 1), at(0, 1, 3, 1), at(1, 2, 2, 1))},
		{list(at(0, 0, 1, 2), at(0, 2, 1, 3)), list(at(0, 0, 1, 5))},
		{list(at(0, 2, 1, 3), at(0, 0, 1, 2)), list(at(0, 0, 1, 5))},
		{list(at(0, 0, 1, 1), at(0, 2, 1, 1)), list(at(0, 0, 1, 1), at(0, 2, 1, 1))},
		{list(at(0, 2, 1, 1), at(0, 0, 1, 1)), list(at(0, 0, 1, 1), at(0, 2, 1, 1))},
		{list(at(0, 0, 2, 1), at(2, 0, 1, 1)), list(at(0, 0, 3, 1))},
		{list(at(3, 0, 1, 1), at(0, 0, 2, 1)), list(at(0, 0, 2, 1), at(3, 0, 1, 1))},
		{list(at(0, 0, 5, 5), at(1, 1, 2, 2), at(0, 0, 5, 5)), list(at(0, 0, 5, 5))},
		{list(at(0, 0, 1, 1), at(1, 1, 1, 1)), list(at(0, 0, 1, 1), at(1, 1, 1, 1))},
		// The middle rows have other columns, though the same number of runs.
		{list(at(0, 0, 3, 3), at(2, 1, 4, 1)), list(at(0, 0, 3, 1), at(0, 1, 6, 1), at(0, 2, 3, 1))},
		{list(at(0, 0, 2, 1), at(4, 0, 2, 1), at(0, 1, 2, 1), at(5, 1, 1, 1)), list(at(0, 0, 2, 1), at(4, 0, 2, 1), at(0, 1, 2, 1), at(5, 1, 1, 1))},
		{list(at(0, 0, 2, 1), at(4, 0, 2, 1), at(0, 1, 2, 1)), list(at(0, 0, 2, 1), at(4, 0, 2, 1), at(0, 1, 2, 1))},
		{list(at(0, 0, 1, 2), at(2, 0, 1, 3), at(0, 2, 1, 1)), list(at(0, 0, 1, 3), at(2, 0, 1, 3))},
		{list(at(0, 0, -1, 5)), nil},
		{list(at(0, 0, -1, 5), at(3, 3, 1, 1), at(0, 0, 5, 0)), list(at(3, 3, 1, 1))},
		{list(world), list(world)},
		{list(at(-far, -far, 2*far, far), at(-far, 0, 2*far, far)), list(world)},
		{list(at(far-1, far-1, 1, 1), at(-far, -far, 1, 1)), list(at(-far, -far, 1, 1), at(far-1, far-1, 1, 1))},
		{broken(), nil},
	} {
		equal(t, region.Of(c.l), c.want, "Of", c.l)
		if !region.Right(c.want) {
			t.Fatalf("Right(%v) is false", c.want)
		}
	}
}

func TestOneList(t *testing.T) {
	r := newRandom(1)
	for _, o := range origins() {
		for i := range 500 {
			checkOne(t, nearList(r, o, i%12, 1+i%9), around(o))
		}
	}
	for i := range 2000 {
		checkOne(t, farList(r, 1+i%20), grid{axis, axis})
	}
	for _, e := range broken() {
		checkOne(t, list(e), around(api.Point{}))
		checkOne(t, list(e, at(1, 1, 2, 2), e), around(api.Point{}))
	}
}

// TestSameSet divides sets into rectangles in other ways: Of returns the same list.
func TestSameSet(t *testing.T) {
	r := newRandom(2)
	for range 300 {
		l := nearList(r, api.Point{}, 6, 8)
		var single []api.Rect
		around(api.Point{}).each(func(x, y, _ int) {
			if has(l, x, y) {
				single = append(single, at(x, y, 1, 1))
			}
		})
		if len(single) > 256 {
			continue
		}
		r.shuffle(single)
		want := region.Of(l)
		equal(t, region.Of(single), want, "Of", single)
		if len(single) == 0 {
			continue
		}
		// Of a set with one pixel less it returns another list.
		if slices.Equal(region.Of(single[1:]), want) {
			t.Fatalf("Of does not depend on %v, of %v", single[0], single)
		}
	}
}

// checkRight compares Right with the canonical list of the set of all elements, which has no pixel outside of the grid.
func checkRight(t *testing.T, l []api.Rect, g grid) {
	t.Helper()
	want := g.canonical(func(x, y int) bool { return hasAll(l, x, y) })
	if got := region.Right(l); got != slices.Equal(l, want) {
		t.Fatalf("Right(%v) is %v, its canonical list is %v", l, got, want)
	}
}

func TestRightOfFewElements(t *testing.T) {
	var all []api.Rect
	for y := range 3 {
		for x := range 3 {
			for h := -1; h < 3; h++ {
				for w := -1; w < 3; w++ {
					all = append(all, at(x, y, w, h))
				}
			}
		}
	}
	g := pixels(0, 0, 6)
	for _, a := range all {
		checkRight(t, list(a), g)
		for _, b := range all {
			checkRight(t, list(a, b), g)
		}
	}
	r := newRandom(3)
	for range 50000 {
		checkRight(t, list(all[r.below(len(all))], all[r.below(len(all))], all[r.below(len(all))]), g)
	}
	if !region.Right(nil) || !region.Right(list()) {
		t.Fatal("the empty list is not canonical")
	}
}

func TestRightOfNumbers(t *testing.T) {
	l := numbers()
	for _, a := range l {
		for _, b := range l {
			for _, e := range list(at(a, 1, b, 1), at(1, a, 1, b), at(a, b, 1, 1), at(-far, -far, a, b)) {
				want := validSide(e.X, e.W) && validSide(e.Y, e.H) && e.W > 0 && e.H > 0
				if region.Right(list(e)) != want {
					t.Fatalf("Right of %v is %v", e, !want)
				}
			}
		}
	}
	one := at(0, 0, 1, 1)
	for _, e := range broken() {
		for _, l := range [][]api.Rect{list(e), list(e, one), list(one, e), list(at(-9, -9, 1, 1), e, one), list(e, e)} {
			if region.Right(l) {
				t.Fatalf("Right(%v) is true", l)
			}
		}
	}
}

// TestRightOfChanges changes canonical lists a little.
func TestRightOfChanges(t *testing.T) {
	r := newRandom(4)
	g := around(api.Point{})
	right := 0
	for range 20000 {
		l := region.Of(nearList(r, api.Point{}, 2+r.below(8), 7))
		if len(l) == 0 {
			continue
		}
		i, j := r.below(len(l)), r.below(len(l))
		switch r.below(8) {
		case 0:
			l[i], l[j] = l[j], l[i]
		case 1:
			l = slices.Delete(l, i, i+1)
		case 2:
			l = slices.Insert(l, i, l[j])
		case 3:
			l[i].X += r.below(3) - 1
		case 4:
			l[i].Y += r.below(3) - 1
		case 5:
			l[i].W += r.below(3) - 1
		case 6:
			l[i].H += r.below(3) - 1
		}
		checkRight(t, l, g)
		if region.Right(l) {
			right++
		}
	}
	if right < 1000 || right > 19000 {
		t.Fatalf("%d of the lists are canonical", right)
	}
}

func TestRightOfLongLists(t *testing.T) {
	var l []api.Rect
	for y := range 20 {
		for x := range 50 {
			l = append(l, at(2*x+y%2, y-10, 1, 1))
		}
	}
	if len(l) != 1000 || !region.Right(l) {
		t.Fatal("Right of a canonical list of 1000 elements is false")
	}
	for i := range l {
		for _, e := range list(at(l[i].X, l[i].Y, 0, 1), at(l[i].X, l[i].Y, 2, 1), at(l[i].X, l[i].Y, 1, 2), at(l[i].X, -far-1, 1, 1)) {
			m := slices.Clone(l)
			m[i] = e
			// Only the last element of a row has no neighbor to its right.
			if want := e.W == 2 && i%50 == 49; region.Right(m) != want {
				t.Fatalf("Right of the list with %v at %d is %v", e, i, !want)
			}
		}
	}
}

// TestLargeResults makes sets of few elements with canonical lists of many.
func TestLargeResults(t *testing.T) {
	columns, rows := crossed(128, 128)
	both := append(slices.Clone(columns), rows...)
	g := lines(both)
	of := region.Of(both)
	equal(t, of, g.canonical(func(x, y int) bool { return has(both, x, y) }), "Of", "crossed")
	if len(of) != 129*128+128 || !region.Right(of) {
		t.Fatalf("Of has %d elements", len(of))
	}
	columns, rows = crossed(256, 256)
	checkTwo(t, columns, rows, lines(columns, rows))
	if n := len(region.Common(columns, rows)); n != 256*256 {
		t.Fatalf("Common has %d elements", n)
	}
	// The other way around, the set has but few bands.
	var l []api.Rect
	for i := range 256 {
		l = append(l, at(255-i, 255-i, 2*i+1, 2*i+1))
	}
	equal(t, region.Of(l), list(at(0, 0, 511, 511)), "Of", "nested")
}

// TestFirstElements: in all functions but Right, the first 256 elements count, invalid ones among them.
func TestFirstElements(t *testing.T) {
	var dots, none []api.Rect
	for i := range 300 {
		dots = append(dots, at(3*i, 5*(i%7), 2, 3))
		none = append(none, at(0, 0, -1, 1))
	}
	for _, l := range [][]api.Rect{
		dots, append(slices.Clone(none[:255]), dots...), append(slices.Clone(none[:256]), dots...), append(slices.Clone(none[:257]), dots...),
		append(slices.Clone(dots[:255]), world, at(-5, -5, 1, 1)), append(slices.Clone(dots[:256]), world), append(slices.Clone(none), dots...),
		slices.Repeat(list(at(1, 1, 2, 2)), 1000), append(slices.Repeat(list(at(1, 1, 2, 2)), 255), at(7, 7, 1, 1), at(9, 9, 1, 1)),
	} {
		checkOne(t, l, lines(list(world), l))
		for _, other := range [][]api.Rect{nil, list(at(0, 0, 2000, 4)), dots, l[:256], l[1:]} {
			checkTwo(t, l, other, lines(list(world), l, other))
			checkTwo(t, other, l, lines(list(world), l, other))
		}
		equal(t, region.Grow(l, 1), region.Grow(l[:256], 1), "Grow", l)
		if !slices.Equal(region.Tiles(l), region.Tiles(l[:256])) {
			t.Fatalf("Tiles of %v are those of more than 256 elements", l)
		}
	}
	// The last element that counts, and the first one that does not.
	for i, want := range map[int]int{255: 1, 256: 0} {
		l := append(slices.Clone(none[:i]), at(40, 40, 1, 1))
		p := api.Point{X: 40, Y: 40}
		if region.Has(l, p) != (want == 1) || region.Area(l) != want || rect.Area(region.Box(l)) != want || len(region.Grow(l, 1)) != want || len(region.Tiles(l)) != want {
			t.Fatalf("the element with the index %d", i)
		}
		if len(region.Of(l)) != want || len(region.Union(l, l)) != want || len(region.Common(l, l)) != want || len(region.Minus(l, nil)) != want || len(region.Minus(list(at(40, 40, 1, 1)), l)) != 1-want {
			t.Fatalf("the element with the index %d", i)
		}
	}
	// Of returns more than 256 elements here, of which only 256 count when it is called again.
	columns, rows := crossed(20, 20)
	of := region.Of(append(columns, rows...))
	if len(of) <= 256 || region.Area(of) >= region.Area(append(columns, rows...)) {
		t.Fatalf("Of has %d elements", len(of))
	}
}

// P3.2

func TestSets(t *testing.T) {
	a, b := list(at(0, 0, 2, 2)), list(at(1, 1, 2, 2))
	for _, c := range []struct{ a, b, union, common, minus []api.Rect }{
		{nil, nil, nil, nil, nil},
		{a, nil, a, nil, a},
		{nil, a, a, nil, nil},
		{a, a, a, a, nil},
		{a, b, list(at(0, 0, 2, 1), at(0, 1, 3, 1), at(1, 2, 2, 1)), list(at(1, 1, 1, 1)), list(at(0, 0, 2, 1), at(0, 1, 1, 1))},
		{list(at(0, 0, 3, 3)), list(at(1, 1, 1, 1)), list(at(0, 0, 3, 3)), list(at(1, 1, 1, 1)), list(at(0, 0, 3, 1), at(0, 1, 1, 1), at(2, 1, 1, 1), at(0, 2, 3, 1))},
		{list(at(1, 1, 1, 1)), list(at(0, 0, 3, 3)), list(at(0, 0, 3, 3)), list(at(1, 1, 1, 1)), nil},
		{list(at(0, 0, 2, 1)), list(at(2, 0, 2, 1)), list(at(0, 0, 4, 1)), nil, list(at(0, 0, 2, 1))},
		{list(at(0, 0, 2, 1)), list(at(0, 1, 2, 1)), list(at(0, 0, 2, 2)), nil, list(at(0, 0, 2, 1))},
		{list(at(0, 0, 6, 1), at(0, 0, 3, 1)), list(at(2, 0, 1, 1), at(2, 0, 2, 1)), list(at(0, 0, 6, 1)), list(at(2, 0, 2, 1)), list(at(0, 0, 2, 1), at(4, 0, 2, 1))},
		{a, broken(), a, nil, a},
		{broken(), a, a, nil, nil},
		{list(world), a, list(world), a, list(at(-far, -far, 2*far, far), at(-far, 0, far, 2), at(2, 0, far-2, 2), at(-far, 2, 2*far, far-2))},
		{list(world), list(world), list(world), list(world), nil},
	} {
		equal(t, region.Union(c.a, c.b), c.union, "Union", c.a, c.b)
		equal(t, region.Common(c.a, c.b), c.common, "Common", c.a, c.b)
		equal(t, region.Minus(c.a, c.b), c.minus, "Minus", c.a, c.b)
	}
}

func TestTwoLists(t *testing.T) {
	r := newRandom(5)
	for _, o := range origins() {
		for i := range 400 {
			size := 1 + i%9
			checkTwo(t, nearList(r, o, r.below(9), size), nearList(r, o, r.below(9), size), around(o))
		}
	}
	for range 1000 {
		checkTwo(t, farList(r, 1+r.below(15)), farList(r, 1+r.below(15)), grid{axis, axis})
	}
}

// TestAllSets combines all pairs of the subsets of small rectangles.
func TestAllSets(t *testing.T) {
	for _, w := range []int{2, 4} {
		g := grid{[]int{0, 1, 2, 3, 4}[:w+1], []int{0, 1, 2, 3, 4}[:8/w+1]}
		sets := make([][]api.Rect, 256)
		for s := range sets {
			sets[s] = g.canonical(func(x, y int) bool { return s>>(y*w+x)&1 == 1 })
		}
		for a, l := range sets {
			for b, m := range sets {
				equal(t, region.Union(l, m), sets[a|b], "Union", l, m)
				equal(t, region.Common(l, m), sets[a&b], "Common", l, m)
				equal(t, region.Minus(l, m), sets[a&^b], "Minus", l, m)
			}
		}
	}
}

func TestHas(t *testing.T) {
	l := numbers()
	for _, a := range [][]api.Rect{nil, list(), broken(), list(world), list(at(0, 0, 2, 2), at(1, 1, 2, 2)), list(at(far-1, far-1, 1, 1), at(-far, -far, 1, 1)), list(at(far-3, -far, 3, 3)), list(at(-far, 0, 2*far, 1), at(0, -far, 1, 2*far))} {
		for _, y := range l {
			for _, x := range l {
				if region.Has(a, api.Point{X: x, Y: y}) != has(a, x, y) {
					t.Fatalf("Has(%v, {%d %d}) is %v", a, x, y, !has(a, x, y))
				}
			}
		}
	}
}

// P3.3

func TestMeasures(t *testing.T) {
	for _, c := range []struct {
		l    []api.Rect
		area int
		box  api.Rect
	}{
		{nil, 0, api.Rect{}},
		{list(), 0, api.Rect{}},
		{broken(), 0, api.Rect{}},
		{list(at(5, 5, 0, 3)), 0, api.Rect{}},
		{list(at(5, 5, 0, 3), at(9, -9, 1, 1)), 1, at(9, -9, 1, 1)},
		{list(at(0, 0, 2, 2), at(1, 1, 2, 2)), 7, at(0, 0, 3, 3)},
		{list(at(0, 0, 2, 2), at(0, 0, 2, 2), at(1, 1, 1, 1)), 4, at(0, 0, 2, 2)},
		{list(at(5, 5, 1, 1), at(-5, -5, 1, 1)), 2, at(-5, -5, 11, 11)},
		{list(world), 1 << 42, world},
		{list(world, world, at(0, 0, 1, 1)), 1 << 42, world},
		{list(at(-far, -far, 1, 1), at(far-1, far-1, 1, 1)), 2, world},
		{list(at(0, -far, 1, 2*far), at(-far, 0, 2*far, 1)), 4*far - 1, world},
	} {
		if got := region.Area(c.l); got != c.area {
			t.Fatalf("Area(%v) is %d, want %d", c.l, got, c.area)
		}
		if got := region.Box(c.l); got != c.box {
			t.Fatalf("Box(%v) is %v, want %v", c.l, got, c.box)
		}
	}
}

func TestSumsOfAreas(t *testing.T) {
	r := newRandom(6)
	for i := range 4000 {
		a, b := farList(r, 1+r.below(8)), farList(r, 1+r.below(8))
		if i%2 == 0 {
			a, b = nearList(r, api.Point{}, 6, 8), nearList(r, api.Point{}, 6, 8)
		}
		union, common, minus := region.Union(a, b), region.Common(a, b), region.Minus(a, b)
		if max(len(union), len(common), len(minus)) > 256 {
			continue
		}
		if region.Area(a)+region.Area(b) != region.Area(union)+region.Area(common) || region.Area(minus)+region.Area(common) != region.Area(a) {
			t.Fatalf("the areas of %v and %v", a, b)
		}
	}
}

// P3.4

func TestGrow(t *testing.T) {
	one, all := list(at(0, 0, 1, 1)), list(world)
	for _, c := range []struct {
		l    []api.Rect
		n    int
		want []api.Rect
	}{
		{one, 1, list(at(-1, -1, 3, 3))},
		{one, 0, one}, {one, -1, one}, {one, -far, one}, {one, math.MinInt, one}, {one, math.MinInt + 1, one},
		{list(at(2, 0, 1, 1), at(0, 0, 2, 1)), -3, list(at(0, 0, 3, 1))},
		{list(at(0, 0, 9, 9)), -2, list(at(0, 0, 9, 9))},
		{list(at(-far, 0, 1, 1)), 1, list(at(-far, -1, 2, 3))},
		{list(at(far-1, 0, 1, 1)), 1, list(at(far-2, -1, 2, 3))},
		{list(at(0, -far, 1, 1)), 2, list(at(-2, -far, 5, 3))},
		{list(at(0, far-1, 1, 1)), 2, list(at(-2, far-3, 5, 3))},
		{list(at(-far+3, 0, 1, 1)), 2, list(at(-far+1, -2, 5, 5))},
		{list(at(0, 0, 1, 1), at(3, 0, 1, 1)), 1, list(at(-1, -1, 6, 3))},
		{list(at(0, 0, 1, 1), at(4, 0, 1, 1)), 1, list(at(-1, -1, 3, 3), at(3, -1, 3, 3))},
		{list(at(0, 0, 1, 1), at(2, 2, 1, 1)), 1, list(at(-1, -1, 3, 2), at(-1, 1, 5, 1), at(1, 2, 3, 2))},
		{one, far - 1, list(at(1-far, 1-far, 2*far-1, 2*far-1))},
		{one, far, all}, {one, far + 1, all}, {one, math.MaxInt, all}, {one, math.MaxInt - 1, all}, {one, 1 << 40, all},
		{list(at(-1, -1, 1, 1)), far - 1, list(at(-far, -far, 2*far-1, 2*far-1))},
		// n is limited to MaxCoord: half the side of the world.
		{list(at(-far, -far, 1, 1)), far, list(at(-far, -far, far+1, far+1))},
		{list(at(-far, -far, 1, 1)), far + 1, list(at(-far, -far, far+1, far+1))},
		{list(at(-far, -far, 1, 1)), math.MaxInt, list(at(-far, -far, far+1, far+1))},
		{list(at(far-1, far-1, 1, 1)), math.MaxInt, list(at(-1, -1, far+1, far+1))},
		{list(at(-far, 0, 1, 1), at(far-1, 0, 1, 1)), math.MaxInt, all},
		{nil, 3, nil}, {list(), math.MaxInt, nil}, {broken(), 5, nil}, {broken(), math.MaxInt, nil}, {broken(), math.MinInt, nil},
		{list(at(3, 3, 0, 5), at(7, 7, 1, 1)), 1, list(at(6, 6, 3, 3))},
		{all, math.MaxInt, all}, {all, 1, all}, {all, -1, all},
	} {
		equal(t, region.Grow(c.l, c.n), c.want, "Grow", c.l, c.n)
	}
}

// grown returns the pixels of the world that lie in a grid of pixels and whose distance to some pixel of a set in the grid is at most n.
func grown(l []api.Rect, n int, g grid) map[api.Point]bool {
	m := map[api.Point]bool{}
	g.each(func(x, y, _ int) {
		if !has(l, x, y) {
			return
		}
		for v := y - n; v <= y+n; v++ {
			for u := x - n; u <= x+n; u++ {
				if inWorld(u, v) {
					m[api.Point{X: u, Y: v}] = true
				}
			}
		}
	})
	return m
}

func TestGrowthByPixels(t *testing.T) {
	r := newRandom(7)
	for _, o := range origins() {
		for i := range 150 {
			l, n := nearList(r, o, i%7, 1+i%8), i%5
			m := grown(l, n, around(o))
			want := pixels(o.X-20, o.Y-20, 44).canonical(func(x, y int) bool { return m[api.Point{X: x, Y: y}] })
			equal(t, region.Grow(l, n), want, "Grow", l, n)
			for _, less := range []int{-1, -n - 1, math.MinInt} {
				equal(t, region.Grow(l, less), region.Of(l), "Grow", l, less)
			}
			for _, more := range []int{far + 1, 2 * far, math.MaxInt} {
				equal(t, region.Grow(l, more), region.Grow(l, far), "Grow", l, more)
			}
		}
	}
}

// sums are pairs of numbers from 0 on, whose sum is at most far.
func sums(r *random) [][2]int {
	n := r.below(far)
	return [][2]int{{0, 0}, {0, 5}, {5, 0}, {1, 1}, {2, 7}, {16, 1000}, {n, far - n}, {0, far}, {far, 0}, {r.below(9), r.below(9)}, {1, far - 1}, {far - 1, 1}}
}

func TestGrowthInSteps(t *testing.T) {
	r := newRandom(8)
	for i := range 2000 {
		l := farList(r, 1+r.below(6))
		if i%2 == 0 {
			l = nearList(r, origins()[i%8], 6, 9)
		}
		for _, n := range sums(r) {
			once := region.Grow(l, n[0])
			if len(once) > 256 {
				continue
			}
			equal(t, region.Grow(once, n[1]), region.Grow(l, n[0]+n[1]), "Grow", l, n)
		}
	}
}

// P3.5

func TestTiles(t *testing.T) {
	for _, c := range []struct {
		l    []api.Rect
		want []api.Point
	}{
		{nil, nil}, {list(), nil}, {broken(), nil}, {list(at(5, 5, 0, 30)), nil},
		{list(at(15, 0, 2, 1)), []api.Point{{}, {X: 1}}},
		{list(at(0, 15, 1, 2)), []api.Point{{}, {Y: 1}}},
		{list(at(0, 0, 16, 16)), []api.Point{{}}},
		{list(at(-1, -1, 1, 1)), []api.Point{{X: -1, Y: -1}}},
		{list(at(-16, -16, 1, 1)), []api.Point{{X: -1, Y: -1}}},
		{list(at(-17, -17, 1, 1)), []api.Point{{X: -2, Y: -2}}},
		{list(at(-1, 15, 2, 2)), []api.Point{{X: -1}, {}, {X: -1, Y: 1}, {Y: 1}}},
		{list(at(15, 0, 2, 1), at(-1, 16, 1, 1)), []api.Point{{}, {X: 1}, {X: -1, Y: 1}}},
		{list(at(-1, 16, 1, 1), at(15, 0, 2, 1)), []api.Point{{}, {X: 1}, {X: -1, Y: 1}}},
		{list(at(0, 0, 1, 1), at(3, 3, 1, 1), at(8, 0, 8, 16)), []api.Point{{}}},
		{list(at(0, 0, 1, 1), at(40, 40, 1, 1)), []api.Point{{}, {X: 2, Y: 2}}},
		{list(at(-far, -far, 1, 1)), []api.Point{{X: -65536, Y: -65536}}},
		{list(at(far-1, far-1, 1, 1)), []api.Point{{X: 65535, Y: 65535}}},
		{list(at(far-1, 0, 1, 1), at(-far, 5, 1, 1)), []api.Point{{X: -65536}, {X: 65535}}},
	} {
		if got := region.Tiles(c.l); !slices.Equal(got, c.want) {
			t.Fatalf("Tiles(%v) is %v, want %v", c.l, got, c.want)
		}
	}
}

// inOrder compares tiles row by row, and in each row from the left to the right.
func inOrder(a, b api.Point) int {
	if a.Y != b.Y {
		return a.Y - b.Y
	}
	return a.X - b.X
}

func TestTilesByPixels(t *testing.T) {
	r := newRandom(9)
	for _, o := range origins() {
		for i := range 100 {
			l := nearList(r, o, i%8, 1+i%60)
			var want []api.Point
			pixels(o.X-40, o.Y-40, 140).each(func(x, y, _ int) {
				if has(l, x, y) {
					// Shifting, unlike dividing, rounds down.
					want = append(want, api.Point{X: x >> 4, Y: y >> 4})
				}
			})
			slices.SortFunc(want, inOrder)
			want = slices.Compact(want)
			if got := region.Tiles(l); !slices.Equal(got, want) {
				t.Fatalf("Tiles(%v) is %v, want %v", l, got, want)
			}
		}
	}
}

func TestTilesLimit(t *testing.T) {
	var bars, wide []api.Rect
	for i := range 256 {
		bars = append(bars, at(-37*i, 16*i+5, 1, 1), at(37*i, 16*i+5, 200, 2))
		wide = append(wide, at(i, i%2, 1000, 1000))
	}
	large := at(0, 0, 1024, 1024)
	for _, c := range []struct {
		l    []api.Rect
		want int
	}{
		{list(large), 4096}, {list(at(-1024, -1024, 1024, 1024)), 4096}, {list(at(0, 0, 1024, 1025)), 0}, {list(at(0, 0, 1024, 1040)), 0}, {list(at(-1, 0, 1024, 1024)), 0},
		{list(large, at(2000, 2000, 1, 1)), 0}, {list(large, at(1024, 0, 1, 1)), 0}, {list(at(2000, 2000, 1, 1), large), 0},
		{list(large, at(7, 7, 900, 1)), 4096}, {slices.Repeat(list(large), 256), 4096}, {slices.Repeat(list(large), 900), 4096},
		{list(at(0, 0, 1024, 600), at(0, 500, 1024, 524)), 4096}, {list(at(0, 0, 1024, 600), at(0, 500, 1024, 525)), 0},
		{list(at(0, 0, 1008, 1024), at(2000, 0, 16, 1024)), 4096}, {list(at(0, 0, 1008, 1024), at(2000, 0, 17, 1024)), 0},
		{append(slices.Repeat(list(at(0, 0, -1, -1)), 255), large, at(5000, 0, 1, 1)), 4096}, {append(slices.Repeat(list(at(0, 0, -1, -1)), 254), large, at(5000, 0, 1, 1)), 0},
		{list(at(0, 0, 65536, 16)), 4096}, {list(at(0, 0, 65537, 1)), 0}, {list(at(0, 0, 1, 65536)), 4096}, {list(at(0, 0, 1, 65537)), 0},
		{list(at(-far, -far, 65536, 16)), 4096}, {list(at(far-65536, far-16, 65536, 16)), 4096}, {list(at(far-65536, far-17, 65536, 17)), 0},
		{list(world), 0}, {list(world, world), 0}, {list(at(-far, 0, 2*far, 1)), 0}, {list(at(0, -far, 1, 2*far)), 0},
		{wide, 0}, {wide[:41], 4095}, {wide[:42], 0},
		{bars[:2], 13}, {nil, 0},
	} {
		l := region.Tiles(c.l)
		if len(l) != c.want {
			t.Fatalf("Tiles(%v) are %d, want %d", c.l, len(l), c.want)
		}
		if !slices.IsSortedFunc(l, inOrder) || len(slices.Compact(slices.Clone(l))) != len(l) {
			t.Fatalf("Tiles(%v) are not in order", c.l)
		}
	}
	checkTilesLaw(t, bars)
	if len(region.Tiles(bars)) == 0 {
		t.Fatal("the bars have tiles")
	}
}

// checkTilesLaw: the tiles, if there are any, have all pixels of the set together, and each of them has one.
func checkTilesLaw(t *testing.T, l []api.Rect) {
	t.Helper()
	tiles := region.Tiles(l)
	sum := 0
	for _, p := range tiles {
		area := region.Area(region.Common(l, list(rect.OfTile(p))))
		if area == 0 {
			t.Fatalf("Tiles(%v) has %v", l, p)
		}
		sum += area
	}
	if len(tiles) > 0 && sum != region.Area(l) {
		t.Fatalf("the tiles of %v have %d of its pixels", l, sum)
	}
}

func TestTilesLaw(t *testing.T) {
	r := newRandom(10)
	some := 0
	for i := range 400 {
		l := nearList(r, origins()[i%8], 1+i%5, 100)
		if i%2 == 0 {
			l = farList(r, 1+i%3)
		}
		if len(region.Tiles(l)) > 0 {
			some++
		}
		checkTilesLaw(t, l)
	}
	if some < 100 {
		t.Fatalf("only %d lists have tiles", some)
	}
}

// TestArguments: arguments are not changed, and what lies behind their length is not read or written (R5).
func TestArguments(t *testing.T) {
	full := list(at(2, 0, 1, 1), at(0, 0, 2, 2), at(0, 0, -1, 1), at(9, 9, 9, 9), at(-3, -3, 100, 100), world)
	other := list(at(1, 1, 1, 1), at(0, 5, 1, 1), world, world)
	for n := range len(full) {
		a, b := slices.Clone(full), slices.Clone(other)
		short, cut := a[:n], b[:2]
		want := slices.Clone(full[:n:n])
		checkOne(t, short, lines(full, other))
		checkTwo(t, short, cut, lines(full, other))
		checkTwo(t, cut, short, lines(full, other))
		equal(t, region.Grow(short, 2), region.Grow(want, 2), "Grow", short)
		if region.Right(short) != region.Right(want) || !slices.Equal(region.Tiles(short), region.Tiles(want)) {
			t.Fatalf("Right or Tiles of %v", short)
		}
		if !slices.Equal(a, full) || !slices.Equal(b, other) {
			t.Fatalf("the arguments are now %v and %v", a, b)
		}
	}
}

// TestNewMemory changes results: arguments and the results of other calls must not follow (R5).
func TestNewMemory(t *testing.T) {
	a, b := list(at(0, 0, 2, 2), at(4, 0, 2, 2)), list(at(0, 0, 8, 8))
	for _, f := range []func() []api.Rect{
		func() []api.Rect { return region.Of(a) },
		func() []api.Rect { return region.Union(a, nil) },
		func() []api.Rect { return region.Common(a, b) },
		func() []api.Rect { return region.Minus(a, nil) },
		func() []api.Rect { return region.Grow(a, 0) },
	} {
		l := f()
		for i := range l {
			l[i] = at(1, 2, 3, 4)
		}
		l = append(l[:1], l...)
		equal(t, f(), list(at(0, 0, 2, 2), at(4, 0, 2, 2)), "a result", l)
		equal(t, a, list(at(0, 0, 2, 2), at(4, 0, 2, 2)), "an argument", l)
	}
	p := region.Tiles(a)
	p[0] = api.Point{X: 9}
	if region.Tiles(a)[0] != (api.Point{}) {
		t.Fatal("two results share memory")
	}
}
