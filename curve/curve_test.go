package curve_test

import (
	"math"
	"slices"
	"testing"

	"imageeditor/api"
	"imageeditor/curve"
)

// knots returns the curve with the given numbers: x, y, x, y, ..
func knots(v ...int) []api.Knot {
	k := make([]api.Knot, len(v)/2)
	for i := range k {
		k[i] = api.Knot{X: v[2*i], Y: v[2*i+1]}
	}
	return k
}

// line returns n knots on the line from (0, 0) to (Unit, Unit), n at least 2.
func line(n int) []api.Knot {
	k := make([]api.Knot, n)
	for i := range k {
		v := i * 65535 / (n - 1)
		k[i] = api.Knot{X: v, Y: v}
	}
	return k
}

// replaced returns a copy of k with another knot at i.
func replaced(k []api.Knot, i, x, y int) []api.Knot {
	k = slices.Clone(k)
	k[i] = api.Knot{X: x, Y: y}
	return k
}

// outside are the numbers beside the unit values and the farthest ones.
func outside() []int { return []int{-1, 65536, math.MinInt, math.MaxInt} }

// wrong returns curves that Check does not accept, and their errors.
func wrong() ([][]api.Knot, []api.Errno) {
	curves := [][]api.Knot{nil, {}, knots(0, 0), knots(-1, -1), knots(65535, 65535), line(17), line(300), make([]api.Knot, 17)}
	errors := []api.Errno{api.ErrArg, api.ErrArg, api.ErrArg, api.ErrArg, api.ErrArg, api.ErrLimit, api.ErrLimit, api.ErrLimit}
	add := func(k []api.Knot, e api.Errno) {
		curves, errors = append(curves, k), append(errors, e)
	}
	for _, n := range []int{2, 3, 16} {
		for _, i := range []int{0, n / 2, n - 1} {
			for _, v := range outside() {
				add(replaced(line(n), i, v, 5), api.ErrRange)
				add(replaced(line(n), i, line(n)[i].X, v), api.ErrRange)
				add(replaced(line(n), i, v, v), api.ErrRange)
			}
		}
		for i := 1; i < n; i++ {
			before := line(n)[i-1]
			add(replaced(line(n), i, before.X, 5), api.ErrOrder)
			add(replaced(line(n), i, max(0, before.X-1), before.Y+1), api.ErrOrder)
			add(replaced(line(n), i-1, line(n)[i].X, 5), api.ErrOrder)
		}
	}
	return curves, errors
}

// flat returns curves that Check accepts, but that are not rising.
func flat() [][]api.Knot {
	return [][]api.Knot{
		knots(0, 65535, 65535, 0),
		knots(100, 7, 200, 9),
		knots(0, 0, 65534, 65535),
		knots(0, 0, 65535, 65534),
		knots(1, 0, 65535, 65535),
		knots(0, 1, 65535, 65535),
		knots(1, 1, 65535, 65535),
		knots(0, 0, 65534, 65534),
		knots(0, 0, 5, 7, 9, 7, 65535, 65535),
		knots(0, 0, 5, 7, 9, 6, 65535, 65535),
		knots(0, 0, 5, 0, 65535, 65535),
		knots(0, 0, 5, 65535, 65535, 65535),
		knots(0, 0, 65535, 0),
		replaced(line(16), 8, 65535*8/15, 65535*7/15),
	}
}

// rising returns rising curves.
func rising() [][]api.Knot {
	list := [][]api.Knot{
		knots(0, 0, 65535, 65535),
		knots(0, 0, 2, 4, 65535, 65535),
		knots(0, 0, 4, 2, 65535, 65535),
		knots(0, 0, 1, 65534, 65535, 65535),
		knots(0, 0, 65534, 1, 65535, 65535),
		knots(0, 0, 1, 1, 65534, 65534, 65535, 65535),
		knots(0, 0, 10, 30000, 50000, 30001, 65535, 65535),
		knots(0, 0, 30000, 10, 30001, 50000, 65535, 65535),
		knots(0, 0, 100, 50, 101, 151, 104, 152, 110, 155, 65535, 65535),
	}
	for n := 2; n <= 16; n++ {
		list = append(list, line(n))
	}
	return list
}

// P7.1

func TestCheck(t *testing.T) {
	curves, errors := wrong()
	for i, k := range curves {
		if e := curve.Check(k); e != errors[i] {
			t.Errorf("Check(%v) = %d, expected %d", k, int(e), int(errors[i]))
		}
	}
	for _, k := range slices.Concat(flat(), rising(), [][]api.Knot{knots(0, 0, 1, 0), knots(65534, 65535, 65535, 0), knots(7, 65535, 8, 65535, 9, 0)}) {
		if e := curve.Check(k); e != api.OK {
			t.Errorf("Check(%v) = %d", k, int(e))
		}
	}
}

func TestCheckOrderOfErrors(t *testing.T) {
	far := make([]api.Knot, 17)
	for i := range far {
		far[i] = api.Knot{X: -i, Y: 70000}
	}
	for _, c := range []struct {
		k    []api.Knot
		want api.Errno
	}{
		{knots(-1, 70000), api.ErrArg},
		{far, api.ErrLimit},
		{far[:16], api.ErrRange},
		{knots(0, 0, 0, 5), api.ErrOrder},
		{knots(5, 0, 4, -1), api.ErrRange},
		{knots(5, 0, -4, 1), api.ErrRange},
		{knots(5, 0, 5, 65536), api.ErrRange},
		{knots(5, 0, 5, 1, 6, -1), api.ErrOrder},
		{knots(5, 0, 6, -1, 6, 1), api.ErrRange},
		{knots(5, -1, 5, 0), api.ErrRange},
		{knots(5, 0, 4, 0, math.MinInt, math.MaxInt), api.ErrOrder},
		{knots(70000, 0, 5, 0), api.ErrRange},
		{knots(5, 0, 9, 0, 7, 0, 8, 0), api.ErrOrder},
		{knots(5, 0, 9, 0, 7, 0, 8, 70000), api.ErrOrder},
	} {
		if e := curve.Check(c.k); e != c.want {
			t.Errorf("Check(%v) = %d, expected %d", c.k, int(e), int(c.want))
		}
	}
}

// The knots behind the length are not read.
func TestCapacity(t *testing.T) {
	k := knots(0, 0, 65535, 65535, 3, -1, 2, 70000)[:2]
	inverse, e := curve.Inverse(k)
	if curve.Check(k) != api.OK || !curve.Rising(k) || curve.At(k, 77) != 77 || curve.Back(k, 77) != 77 || e != api.OK || !slices.Equal(inverse, k) {
		t.Error("a knot behind the length is read")
	}
	if e := curve.Check(k[:1]); e != api.ErrArg {
		t.Errorf("Check of one knot = %d", int(e))
	}
}

// P7.2

func TestAt(t *testing.T) {
	fall, short := knots(0, 65535, 65535, 0), knots(100, 7, 200, 9)
	half := knots(0, 0, 65535, 32768)
	mixed := knots(10, 5, 12, 6, 14, 5, 20, 5, 23, 1, 26, 5)
	for _, c := range []struct {
		k       []api.Knot
		x, want int
	}{
		{half, 3, 2}, {half, 1, 1}, {half, 2, 1}, {half, 65534, 32767}, {half, 65535, 32768},
		{fall, 1, 65534}, {fall, 0, 65535}, {fall, 65535, 0}, {fall, -1, 65535}, {fall, 65536, 0},
		{short, -5, 7}, {short, 99, 7}, {short, 100, 7}, {short, 124, 7}, {short, 125, 8}, {short, 150, 8}, {short, 174, 8}, {short, 175, 9},
		{short, 199, 9}, {short, 200, 9}, {short, 201, 9}, {short, 300, 9},
		{short, math.MinInt, 7}, {short, math.MaxInt, 9}, {fall, math.MinInt, 65535}, {fall, math.MaxInt, 0},
		{mixed, 9, 5}, {mixed, 10, 5}, {mixed, 11, 6}, {mixed, 12, 6}, {mixed, 13, 6}, {mixed, 14, 5}, {mixed, 17, 5}, {mixed, 20, 5},
		{mixed, 21, 4}, {mixed, 22, 2}, {mixed, 23, 1}, {mixed, 24, 2}, {mixed, 25, 4}, {mixed, 26, 5}, {mixed, 27, 5},
		{knots(0, 0, 2, 1), 1, 1}, {knots(0, 1, 2, 0), 1, 1}, {knots(0, 4, 2, 1), 1, 3}, {knots(0, 0, 65535, 32767), 1, 0},
		{knots(0, 32767, 65535, 0), 1, 32767}, {knots(0, 32768, 65535, 0), 1, 32767},
		{knots(0, 0, 1, 65535), 0, 0}, {knots(0, 0, 1, 65535), 1, 65535}, {line(16), 40000, 40000},
	} {
		if got := curve.At(c.k, c.x); got != c.want {
			t.Errorf("At(%v, %d) = %d, expected %d", c.k, c.x, got, c.want)
		}
	}
}

func TestAtNotAccepted(t *testing.T) {
	curves, _ := wrong()
	for _, k := range curves {
		for x, want := range map[int]int{math.MinInt: 0, -1: 0, 0: 0, 1: 1, 300: 300, 65534: 65534, 65535: 65535, 65536: 65535, math.MaxInt: 65535} {
			if got := curve.At(k, x); got != want {
				t.Errorf("At(%v, %d) = %d, expected %d", k, x, got, want)
			}
		}
	}
}

// P7.3

func TestRising(t *testing.T) {
	for _, k := range rising() {
		if !curve.Rising(k) {
			t.Errorf("Rising(%v) is false", k)
		}
	}
	curves, _ := wrong()
	for _, k := range append(curves, flat()...) {
		if curve.Rising(k) {
			t.Errorf("Rising(%v) is true", k)
		}
	}
	for i := 1; i < 15; i++ {
		at := line(16)[i]
		for _, y := range []int{line(16)[i-1].Y, line(16)[i-1].Y - 1, line(16)[i+1].Y, line(16)[i+1].Y + 1} {
			if k := replaced(line(16), i, at.X, y); curve.Rising(k) {
				t.Errorf("Rising(%v) is true", k)
			}
		}
	}
}

// P7.4

func TestInverse(t *testing.T) {
	got, e := curve.Inverse(knots(0, 0, 2, 4, 100, 3000, 65535, 65535))
	if want := knots(0, 0, 4, 2, 3000, 100, 65535, 65535); e != api.OK || !slices.Equal(got, want) {
		t.Errorf("Inverse = %v, %d; expected %v", got, int(e), want)
	}
	curves, errors := wrong()
	for i, k := range curves {
		if got, e := curve.Inverse(k); len(got) != 0 || e != errors[i] {
			t.Errorf("Inverse(%v) = %v, %d; expected %d", k, got, int(e), int(errors[i]))
		}
	}
	for _, k := range flat() {
		if got, e := curve.Inverse(k); len(got) != 0 || e != api.ErrArg {
			t.Errorf("Inverse(%v) = %v, %d; expected %d", k, got, int(e), int(api.ErrArg))
		}
	}
}

// The result shares no memory with the argument, nor with the result of another call.
func TestInverseNewMemory(t *testing.T) {
	k := line(5)
	a, _ := curve.Inverse(k)
	b, _ := curve.Inverse(k)
	for i := range a {
		a[i] = api.Knot{X: -1, Y: -2}
	}
	a = append(a[:0], knots(9, 9, 9, 9)...)
	if !slices.Equal(k, line(5)) || !slices.Equal(b, line(5)) || len(a) != 2 {
		t.Errorf("after a change of the inverse: the argument is %v, another result %v", k, b)
	}
}

// P7.5

func TestTable(t *testing.T) {
	for _, c := range []struct {
		k    []api.Knot
		n    int
		want []int
	}{
		{line(2), 2, []int{0, 65535}},
		{line(2), 3, []int{0, 32768, 65535}},
		{line(3), 5, []int{0, 16384, 32768, 49151, 65535}},
		{knots(0, 65535, 65535, 0), 3, []int{65535, 32767, 0}},
		{knots(100, 7, 200, 9), 2, []int{7, 9}},
		{knots(32768, 7, 40000, 9), 3, []int{7, 7, 9}},
		{knots(21845, 0, 43690, 65535), 4, []int{0, 0, 65535, 65535}},
	} {
		if got, e := curve.Table(c.k, c.n); e != api.OK || !slices.Equal(got, c.want) {
			t.Errorf("Table(%v, %d) = %v, %d; expected %v", c.k, c.n, got, int(e), c.want)
		}
	}
	got, e := curve.Table(line(2), 256)
	if e != api.OK || len(got) != 256 {
		t.Fatalf("Table of 256 numbers: %d of them, %d", len(got), int(e))
	}
	for i, v := range got {
		if v != 257*i {
			t.Errorf("number %d of 256 is %d", i, v)
		}
	}
}

func TestTableErrors(t *testing.T) {
	beyond := []int{math.MinInt, math.MinInt + 1, -1, 0, 1, 257, 258, 65536, math.MaxInt}
	for _, n := range beyond {
		for _, k := range slices.Concat(flat(), rising()) {
			if got, e := curve.Table(k, n); len(got) != 0 || e != api.ErrRange {
				t.Errorf("Table(%v, %d) = %v, %d", k, n, got, int(e))
			}
		}
	}
	curves, errors := wrong()
	for i, k := range curves {
		for _, n := range append(beyond, 2, 3, 256) {
			if got, e := curve.Table(k, n); len(got) != 0 || e != errors[i] {
				t.Errorf("Table(%v, %d) = %v, %d; expected %d", k, n, got, int(e), int(errors[i]))
			}
		}
	}
}

// P7.6

func TestBack(t *testing.T) {
	k := knots(0, 0, 2, 4, 65535, 65535)
	steep := knots(0, 0, 1, 65534, 65535, 65535)
	low := knots(0, 0, 65534, 1, 65535, 65535)
	for _, c := range []struct {
		k       []api.Knot
		y, want int
	}{
		{k, 3, 2}, {k, 4, 2}, {k, 2, 1}, {k, 1, 1}, {k, 0, 0}, {k, 5, 3}, {k, 65535, 65535}, {k, 65534, 65534},
		{k, -1, 0}, {k, math.MinInt, 0}, {k, 65536, 65535}, {k, math.MaxInt, 65535},
		{steep, 0, 0}, {steep, 1, 1}, {steep, 65534, 1}, {steep, 65535, 32768},
		{low, 0, 0}, {low, 1, 32767}, {low, 2, 65535}, {low, 65535, 65535},
		{line(16), 777, 777}, {line(16), 4369, 4369}, {line(16), 4370, 4370}, {line(16), 4368, 4368},
	} {
		if got := curve.Back(c.k, c.y); got != c.want {
			t.Errorf("Back(%v, %d) = %d, expected %d", c.k, c.y, got, c.want)
		}
	}
}

func TestBackNotRising(t *testing.T) {
	curves, _ := wrong()
	for _, k := range append(curves, flat()...) {
		for _, y := range []int{math.MinInt, -1, 0, 1, 3, 4000, 65534, 65535, 65536, math.MaxInt} {
			if got := curve.Back(k, y); got != -1 {
				t.Errorf("Back(%v, %d) = %d", k, y, got)
			}
		}
	}
}

// Rule R5: no function changes the curve.
func TestArgumentsUnchanged(t *testing.T) {
	curves, _ := wrong()
	for _, k := range slices.Concat(curves, flat(), rising()) {
		// The knots behind the length are the curve's memory, too.
		memory := append(slices.Clone(k), knots(11, 12, 13, 14)...)
		before := slices.Clone(memory)
		k := memory[:len(k)]
		curve.Check(k)
		curve.Rising(k)
		curve.Inverse(k)
		for _, v := range []int{math.MinInt, 0, 1, 2, 256, 40000, 65535, math.MaxInt} {
			curve.At(k, v)
			curve.Table(k, v)
			curve.Back(k, v)
		}
		if !slices.Equal(memory, before) {
			t.Errorf("%v became %v", before, memory)
		}
	}
}
