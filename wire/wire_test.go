package wire_test

import (
	"math"
	"math/big"
	"runtime"
	"slices"
	"strings"
	"testing"

	"imageeditor/api"
	"imageeditor/wire"
)

// numbers returns the numbers at the borders between two lengths of a varint, and at the ends.
func numbers() []uint64 {
	l := []uint64{0, 1, 2, 3, 42, 300, math.MaxInt, 1 << 63, math.MaxUint64, math.MaxUint64 - 1}
	for k := 7; k < 64; k += 7 {
		b := uint64(1) << k
		l = append(l, b-2, b-1, b, b+1, 2*b-1, 2*b)
	}
	return l
}

// signedNumbers returns the same for numbers with a sign.
func signedNumbers() []int {
	l := []int{math.MinInt, math.MinInt + 1, math.MaxInt, math.MaxInt - 1}
	for _, n := range numbers() {
		l = append(l, int(n), -int(n), int(n/2), -int(n/2), -int(n/2)-1)
	}
	return l
}

// texts returns texts of several lengths; some are not UTF-8.
func texts() []string {
	l := []string{"", "a", "ab", "\x00", "\xff\xfe", "\x80", "\u00e9\u4e2d", "\xc3"}
	for _, n := range []int{126, 127, 128, 129, 300, 16383, 16384} {
		l = append(l, strings.Repeat("\xf0\x00z\x80", n)[:n])
	}
	return l
}

// lists returns lists of several lengths.
func lists() [][]int {
	l := [][]int{nil, {}, {0}, {1, -1}, {math.MinInt, math.MaxInt}, signedNumbers()}
	for _, n := range []int{127, 128, 129, 16383, 16384} {
		var long []int
		for i := range n {
			long = append(long, i*i-1000)
		}
		l = append(l, long)
	}
	return l
}

// manyMost returns limits of all sizes.
func manyMost() []int {
	return []int{math.MinInt, math.MinInt + 1, -1000, -2, -1, 0, 1, 2, 3, 4, 127, 128, 129, 1 << 20, math.MaxInt - 1, math.MaxInt}
}

// P4.1

func TestBytes(t *testing.T) {
	nine := strings.Repeat("\xff", 9)
	for _, c := range []struct{ got, want string }{
		{wire.Uint(0), "\x00"},
		{wire.Uint(1), "\x01"},
		{wire.Uint(127), "\x7f"},
		{wire.Uint(128), "\x80\x01"},
		{wire.Uint(300), "\xac\x02"},
		{wire.Uint(16383), "\xff\x7f"},
		{wire.Uint(16384), "\x80\x80\x01"},
		{wire.Uint(1<<63 - 1), nine[1:] + "\x7f"},
		{wire.Uint(1 << 63), strings.Repeat("\x80", 9) + "\x01"},
		{wire.Uint(math.MaxUint64), nine + "\x01"},
		{wire.Int(0), "\x00"},
		{wire.Int(-1), "\x01"},
		{wire.Int(1), "\x02"},
		{wire.Int(-2), "\x03"},
		{wire.Int(63), "\x7e"},
		{wire.Int(-64), "\x7f"},
		{wire.Int(64), "\x80\x01"},
		{wire.Int(-65), "\x81\x01"},
		{wire.Int(65536), "\x80\x80\x08"},
		{wire.Int(math.MaxInt), "\xfe" + nine[1:] + "\x01"},
		{wire.Int(math.MinInt), nine + "\x01"},
		{wire.Int(-1 << 62), nine[1:] + "\x7f"},
		{wire.Int(1 << 62), strings.Repeat("\x80", 9) + "\x01"},
		{wire.Text(""), "\x00"},
		{wire.Text("ab"), "\x02ab"},
		{wire.Text("\xff\x00\xc3"), "\x03\xff\x00\xc3"},
		{wire.Text("\u4e2d"), "\x03\xe4\xb8\xad"},
		{wire.Text(strings.Repeat("x", 127)), "\x7f" + strings.Repeat("x", 127)},
		{wire.Text(strings.Repeat("x", 128)), "\x80\x01" + strings.Repeat("x", 128)},
		{wire.Text(strings.Repeat("x", 300)), "\xac\x02" + strings.Repeat("x", 300)},
		{wire.Ints(nil), "\x00"},
		{wire.Ints([]int{}), "\x00"},
		{wire.Ints([]int{0}), "\x01\x00"},
		{wire.Ints([]int{1, -1}), "\x02\x02\x01"},
		{wire.Ints([]int{150, math.MinInt, 0}), "\x03\xac\x02" + nine + "\x01\x00"},
		{wire.Ints(make([]int, 300)), "\xac\x02" + strings.Repeat("\x00", 300)},
	} {
		if c.got != c.want {
			t.Errorf("% .40x, expected % .40x", c.got, c.want)
		}
	}
}

func TestLengths(t *testing.T) {
	for k := 1; k <= 9; k++ {
		b := uint64(1) << (7 * k)
		if n := len(wire.Uint(b - 1)); n != k {
			t.Errorf("Uint(2^%d - 1) has %d bytes", 7*k, n)
		}
		if n := len(wire.Uint(b)); n != k+1 {
			t.Errorf("Uint(2^%d) has %d bytes", 7*k, n)
		}
	}
}

func TestEncodingOfNumbers(t *testing.T) {
	check := func(u uint64, n int) {
		t.Helper()
		if got, want := wire.Uint(u), varint(new(big.Int).SetUint64(u)); got != want {
			t.Fatalf("Uint(%d): % x, expected % x", u, got, want)
		}
		if got, want := wire.Int(n), varint(zigzag(whole(n))); got != want {
			t.Fatalf("Int(%d): % x, expected % x", n, got, want)
		}
	}
	for _, u := range numbers() {
		check(u, int(u))
	}
	for _, n := range signedNumbers() {
		check(uint64(n), n)
	}
	for n := range 40000 {
		check(uint64(n), n-20000)
	}
	r := newRandom(1)
	for range 20000 {
		check(r.number(), r.signed())
	}
}

func TestEncodingOfTextsAndLists(t *testing.T) {
	for _, s := range texts() {
		if got, want := wire.Text(s), wire.Uint(uint64(len(s)))+s; got != want {
			t.Errorf("a text of %d bytes: % .40x", len(s), got)
		}
	}
	for _, l := range lists() {
		want := []byte(wire.Uint(uint64(len(l))))
		for _, n := range l {
			want = append(want, wire.Int(n)...)
		}
		if got := wire.Ints(l); got != string(want) {
			t.Errorf("a list of %d elements: % .40x", len(l), got)
		}
	}
}

func TestArgumentOfInts(t *testing.T) {
	all := []int{7, -8, 9, 10}
	if got := wire.Ints(all[1:2]); got != "\x01\x0f" {
		t.Errorf("one element of several: % x", got)
	}
	if !slices.Equal(all, []int{7, -8, 9, 10}) {
		t.Errorf("Ints changed its argument: %v", all)
	}
}

// P4.2

func TestVarints(t *testing.T) {
	high, ones := strings.Repeat("\x80", 9), strings.Repeat("\xff", 9)
	for _, c := range []struct {
		s    string
		n    uint64
		left int
		e    api.Errno
	}{
		{"", 0, 0, api.ErrShort},
		{"\x00", 0, 0, api.OK},
		{"\x00\x00", 0, 1, api.OK},
		{"\x7f\x80", 127, 1, api.OK},
		{"\xac\x02\x00", 300, 1, api.OK},
		{"\x80", 0, 0, api.ErrShort},
		{"\x80\x00", 0, 0, api.ErrForm},
		{"\xff\x00\x01", 0, 0, api.ErrForm},
		{"\x80\x80\x80\x00", 0, 0, api.ErrForm},
		{"\x80\x80\x01", 1 << 14, 0, api.OK},
		{high, 0, 0, api.ErrShort},
		{ones, 0, 0, api.ErrShort},
		{ones[1:], 0, 0, api.ErrShort},
		{ones[1:] + "\x7f", math.MaxInt, 0, api.OK},
		{ones[1:] + "\x00", 0, 0, api.ErrForm},
		{high + "\x00", 0, 0, api.ErrForm},
		{high + "\x01", 1 << 63, 0, api.OK},
		{ones + "\x00", 0, 0, api.ErrForm},
		{ones + "\x01", math.MaxUint64, 0, api.OK},
		{ones + "\x01\x05", math.MaxUint64, 1, api.OK},
		{ones + "\x02", 0, 0, api.ErrForm},
		{ones + "\x7f", 0, 0, api.ErrForm},
		// The tenth byte decides, before another one is missed or read.
		{ones + "\x80", 0, 0, api.ErrForm},
		{ones + "\x81\x01", 0, 0, api.ErrForm},
		{high + "\xff\x00", 0, 0, api.ErrForm},
	} {
		r := wire.New(c.s)
		n, left, e := r.Uint(), r.Left(), r.Err()
		if n != c.n || left != c.left || e != c.e {
			t.Errorf("% x: %d, Left %d, Err %d, expected %d, %d, %d", c.s, n, left, e, c.n, c.left, c.e)
		}
	}
}

func TestSignedNumbers(t *testing.T) {
	for _, c := range []struct {
		s string
		n int
	}{
		{"\x00", 0}, {"\x01", -1}, {"\x02", 1}, {"\x03", -2}, {"\x7e", 63}, {"\x7f", -64}, {"\x80\x01", 64}, {"\x81\x01", -65},
		{"\xfe\xff\xff\xff\xff\xff\xff\xff\xff\x01", math.MaxInt},
		{"\xff\xff\xff\xff\xff\xff\xff\xff\xff\x01", math.MinInt},
		{"\xfd\xff\xff\xff\xff\xff\xff\xff\xff\x01", math.MinInt + 1},
	} {
		r := wire.New(c.s)
		if n, e := r.Int(), r.End(); n != c.n || e != api.OK {
			t.Errorf("% x: %d, error %d, expected %d", c.s, n, e, c.n)
		}
	}
	for s, want := range map[string]api.Errno{"": api.ErrShort, "\x81": api.ErrShort, "\x81\x00": api.ErrForm, "\xff\xff\xff\xff\xff\xff\xff\xff\xff\x03": api.ErrForm} {
		r := wire.New(s)
		if n, e := r.Int(), r.Err(); n != 0 || e != want {
			t.Errorf("% x: %d, error %d, expected %d", s, n, e, want)
		}
	}
}

// TestShortInputs decodes each function from all short inputs, with all limits around their counts.
func TestShortInputs(t *testing.T) {
	check := func(s string) {
		for which := range 5 {
			for most := -1; most < 4; most++ {
				step(t, wire.New(s), &model{text: s}, which, most)
				if which < 2 {
					break
				}
			}
		}
	}
	bytes := []byte{0, 1, 2, 0x7f, 0x80, 0x81, 0xff}
	var grow func(s string)
	grow = func(s string) {
		check(s)
		if len(s) == 4 {
			return
		}
		for _, b := range bytes {
			grow(s + string([]byte{b}))
		}
	}
	grow("")
	for a := range 256 {
		check(string([]byte{byte(a)}))
		for b := range 256 {
			check(string([]byte{byte(a), byte(b)}))
		}
	}
}

// TestLongVarints has all tenth bytes, behind nine that go on.
func TestLongVarints(t *testing.T) {
	r := newRandom(2)
	for range 200 {
		nine := make([]byte, 9)
		for i := range nine {
			nine[i] = 128 | byte(r.next())
		}
		for tenth := range 256 {
			s := string(nine) + string([]byte{byte(tenth), 1})
			for _, c := range []string{s, s[:10]} {
				step(t, wire.New(c), &model{text: c}, 0, 0)
				step(t, wire.New(c), &model{text: c}, 1, 0)
			}
		}
	}
}

func TestCount(t *testing.T) {
	for _, n := range numbers() {
		for _, most := range append(manyMost(), signedNumbers()...) {
			s := wire.Uint(n) + "\x05"
			r := wire.New(s)
			got, left, e := r.Count(most), r.Left(), r.Err()
			want, wantLeft, wantE := int(n), 1, api.OK
			if most < 0 && n > 0 || most >= 0 && n > uint64(most) {
				want, wantLeft, wantE = 0, 0, api.ErrLimit
			}
			if got != want || left != wantLeft || e != wantE {
				t.Fatalf("Count(%d) of %d: %d, Left %d, error %d", most, n, got, left, e)
			}
		}
	}
}

func TestText(t *testing.T) {
	for _, s := range texts() {
		n := len(s)
		for _, most := range append(manyMost(), n-1, n, n+1) {
			r := wire.New(wire.Text(s) + "?")
			got, left, e := r.Text(most), r.Left(), r.Err()
			want, wantLeft, wantE := s, 1, api.OK
			if n > max(most, 0) {
				want, wantLeft, wantE = "", 0, api.ErrLimit
			}
			if got != want || left != wantLeft || e != wantE {
				t.Fatalf("Text(%d) of %d bytes: % .40x, Left %d, error %d", most, n, got, left, e)
			}
		}
	}
}

func TestInts(t *testing.T) {
	for _, l := range lists() {
		n := len(l)
		for _, most := range append(manyMost(), n-1, n, n+1) {
			r := wire.New(wire.Ints(l) + "?")
			got, left, e := r.Ints(most), r.Left(), r.Err()
			want, wantLeft, wantE := l, 1, api.OK
			if n > max(most, 0) {
				want, wantLeft, wantE = nil, 0, api.ErrLimit
			}
			if !slices.Equal(got, want) || left != wantLeft || e != wantE {
				t.Fatalf("Ints(%d) of %d elements: %d, Left %d, error %d", most, n, len(got), left, e)
			}
		}
	}
}

// TestFirstError has inputs to which two errors apply.
func TestFirstError(t *testing.T) {
	text := func(most int) func(r *wire.Reader) bool {
		return func(r *wire.Reader) bool { return r.Text(most) == "" }
	}
	count := func(most int) func(r *wire.Reader) bool {
		return func(r *wire.Reader) bool { return r.Count(most) == 0 }
	}
	ints := func(most int) func(r *wire.Reader) bool {
		return func(r *wire.Reader) bool { return len(r.Ints(most)) == 0 }
	}
	for i, c := range []struct {
		s    string
		read func(r *wire.Reader) bool
		e    api.Errno
	}{
		{"\x05a", text(4), api.ErrLimit},
		{"\x05a", text(5), api.ErrShort},
		{"\x05a", text(9), api.ErrShort},
		{"\x05", text(0), api.ErrLimit},
		{"\x05", text(math.MinInt), api.ErrLimit},
		{"\x05abcd", text(math.MaxInt), api.ErrShort},
		{"", text(-1), api.ErrShort},
		{"\x85", text(0), api.ErrShort},
		{"\x85\x00", text(0), api.ErrForm},
		{"\x85\x00", count(0), api.ErrForm},
		{"\x85", count(0), api.ErrShort},
		{"", count(-1), api.ErrShort},
		{"\x02", ints(1), api.ErrLimit},
		{"\x02\x02\x01", ints(1), api.ErrLimit},
		{"\x02\x80\x00", ints(1), api.ErrLimit},
		{"\x02", ints(2), api.ErrShort},
		{"\x02\x02", ints(2), api.ErrShort},
		{"\x02\x02\x81", ints(2), api.ErrShort},
		{"\x03\x02\x81\x00", ints(3), api.ErrForm},
		{"\x03\x81\x00", ints(3), api.ErrForm},
		{"\x02\x80\x00\x05", ints(2), api.ErrForm},
		{"\x81\x00", ints(0), api.ErrForm},
		{"\x81", ints(0), api.ErrShort},
		{"", ints(0), api.ErrShort},
	} {
		r := wire.New(c.s)
		if !c.read(r) || r.Err() != c.e || r.End() != c.e || r.Left() != 0 {
			t.Errorf("%d: error %d, expected %d", i, r.Err(), c.e)
		}
	}
}

// TestHugeCounts has lengths and counts of elements that are not there.
func TestHugeCounts(t *testing.T) {
	var before, after runtime.MemStats
	runtime.ReadMemStats(&before)
	for _, n := range []uint64{1 << 20, 1 << 28, 1 << 40, 1 << 60, 1<<61 - 1, 1 << 62, math.MaxInt - 1, math.MaxInt, 1 << 63, 1<<63 + 1, math.MaxUint64} {
		for _, rest := range []string{"", "abc", "\x02\x04\x80", "\x80\x00"} {
			for _, most := range []int{0, 1 << 20, 1 << 62, math.MaxInt - 1, math.MaxInt} {
				s := wire.Uint(n) + rest
				step(t, wire.New(s), &model{text: s}, 2, most)
				step(t, wire.New(s), &model{text: s}, 4, most)
			}
		}
	}
	runtime.ReadMemStats(&after)
	if n := after.TotalAlloc - before.TotalAlloc; n > 1<<22 {
		t.Errorf("%d bytes of memory for elements that are not there", n)
	}
}

// TestManySteps decodes anything in any order, also behind an error.
func TestManySteps(t *testing.T) {
	rand := newRandom(3)
	errors := []api.Errno{api.OK, api.ErrArg, api.ErrShort, api.ErrLocked, -1, 1000}
	for range 60000 {
		s := rand.mess()
		r, m := wire.New(s), &model{text: s}
		same(t, r, m)
		for range 1 + rand.below(6) {
			step(t, r, m, rand.below(5), rand.most())
			if rand.below(8) == 0 {
				e := errors[rand.below(len(errors))]
				r.Fail(e)
				m.fail(e)
				same(t, r, m)
			}
		}
	}
}

// TestAfterError calls every function behind every error, though values could still be read.
func TestAfterError(t *testing.T) {
	more := wire.Ints([]int{1, 2, 3}) + wire.Text("more")
	for _, c := range []struct {
		s    string
		fail func(r *wire.Reader)
		e    api.Errno
	}{
		{"\x80\x00" + more, func(r *wire.Reader) { r.Uint() }, api.ErrForm},
		{"\x80\x00" + more, func(r *wire.Reader) { r.Int() }, api.ErrForm},
		{more, func(r *wire.Reader) { r.Count(2) }, api.ErrLimit},
		{more, func(r *wire.Reader) { r.Text(2) }, api.ErrLimit},
		{more, func(r *wire.Reader) { r.Ints(2) }, api.ErrLimit},
		{"\x7f" + more, func(r *wire.Reader) { r.Text(200) }, api.ErrShort},
		{"\x7f" + more, func(r *wire.Reader) { r.Ints(200) }, api.ErrShort},
		{"\x02\x01\x81\x00" + more, func(r *wire.Reader) { r.Ints(2) }, api.ErrForm},
		{more, func(r *wire.Reader) { r.Fail(api.ErrKind) }, api.ErrKind},
		{"", func(r *wire.Reader) { r.Fail(api.ErrKind) }, api.ErrKind},
	} {
		r := wire.New(c.s)
		c.fail(r)
		for range 2 {
			lost(t, r, c.e)
			r.Fail(api.ErrDup)
			r.Fail(api.OK)
		}
	}
}

// lost checks that all functions of a reader return the error e and zero values.
func lost(t *testing.T, r *wire.Reader, e api.Errno) {
	t.Helper()
	if u, n := r.Uint(), r.Int(); u != 0 || n != 0 {
		t.Errorf("after error %d: Uint %d, Int %d", e, u, n)
	}
	for _, most := range manyMost() {
		if s, n, l := r.Text(most), r.Count(most), r.Ints(most); s != "" || n != 0 || len(l) != 0 {
			t.Errorf("after error %d: Text(%d) %q, Count %d, Ints %v", e, most, s, n, l)
		}
	}
	if n := r.Left(); n != 0 {
		t.Errorf("after error %d: Left %d", e, n)
	}
	if err, end := r.Err(), r.End(); err != e || end != e {
		t.Errorf("Err %d, End %d, expected %d", err, end, e)
	}
}

// TestSeparateResults checks that results share no memory, and readers no state.
func TestSeparateResults(t *testing.T) {
	s := wire.Ints([]int{1, 2, 3}) + wire.Ints([]int{4, 5})
	r, other := wire.New(s), wire.New(s)
	a, b, c := r.Ints(3), r.Ints(3), other.Ints(3)
	a[0] = 10
	_ = append(a[:1], 11, 12, 13, 14, 15)
	equalLists(t, b, []int{4, 5}, "Ints", s)
	equalLists(t, c, []int{1, 2, 3}, "Ints", s)
	r.Fail(api.ErrArg)
	equalLists(t, other.Ints(3), []int{4, 5}, "Ints", s)
}

// P4.3

func TestNewReader(t *testing.T) {
	for _, s := range []string{"", "\x00", "abc", "\xff\xff"} {
		r := wire.New(s)
		want := api.OK
		if s != "" {
			want = api.ErrExtra
		}
		// Twice, because none of them changes the reader.
		for range 2 {
			if r.Left() != len(s) || r.Err() != api.OK || r.End() != want {
				t.Errorf("% x: Left %d, Err %d, End %d", s, r.Left(), r.Err(), r.End())
			}
		}
	}
}

func TestEnd(t *testing.T) {
	r := wire.New("\x01\x02ab\x07")
	if n, e := r.Uint(), r.End(); n != 1 || e != api.ErrExtra {
		t.Errorf("%d, End %d", n, e)
	}
	// ErrExtra is what End returns, but not an error of the reader.
	if e, left := r.Err(), r.Left(); e != api.OK || left != 4 {
		t.Errorf("Err %d, Left %d", e, left)
	}
	if s, left, e := r.Text(2), r.Left(), r.End(); s != "ab" || left != 1 || e != api.ErrExtra {
		t.Errorf("%q, Left %d, End %d", s, left, e)
	}
	if n, left, e := r.Int(), r.Left(), r.End(); n != -4 || left != 0 || e != api.OK {
		t.Errorf("%d, Left %d, End %d", n, left, e)
	}
	if n, err, end := r.Uint(), r.Err(), r.End(); n != 0 || err != api.ErrShort || end != api.ErrShort {
		t.Errorf("%d, Err %d, End %d", n, err, end)
	}
}

func TestFail(t *testing.T) {
	r := wire.New("\x05\x06\x07")
	r.Uint()
	r.Fail(api.OK)
	if left, e, n := r.Left(), r.Err(), r.Uint(); left != 2 || e != api.OK || n != 6 {
		t.Errorf("Fail(OK): Left %d, Err %d, then %d", left, e, n)
	}
	for _, e := range []api.Errno{api.ErrArg, api.ErrState, api.ErrExtra, api.ErrOrder, -1, 25, math.MaxInt, math.MinInt} {
		r := wire.New("\x05\x06\x07")
		r.Uint()
		r.Fail(e)
		r.Fail(api.ErrDup)
		r.Fail(api.OK)
		lost(t, r, e)
	}
	r = wire.New("\x80\x00")
	r.Uint()
	r.Fail(api.ErrDup)
	lost(t, r, api.ErrForm)
}

func TestReadersNotMade(t *testing.T) {
	var none *wire.Reader
	var zero wire.Reader
	for _, r := range []*wire.Reader{none, &zero, new(wire.Reader), {}} {
		lost(t, r, api.ErrState)
		r.Fail(api.ErrArg)
		lost(t, r, api.ErrState)
		r.Fail(api.OK)
		lost(t, r, api.ErrState)
	}
}

// P4.4

func TestRoundTrip(t *testing.T) {
	var all []byte
	for _, n := range numbers() {
		all = append(all, wire.Uint(n)...)
	}
	for _, n := range signedNumbers() {
		all = append(all, wire.Int(n)...)
	}
	for _, s := range texts() {
		all = append(all, wire.Text(s)...)
	}
	for _, l := range lists() {
		all = append(all, wire.Ints(l)...)
	}
	s := string(all)
	r := wire.New(s)
	for _, n := range numbers() {
		equal(t, r.Uint(), n, "Uint", s)
	}
	for _, n := range signedNumbers() {
		equal(t, r.Int(), n, "Int", s)
	}
	for _, want := range texts() {
		equal(t, r.Text(len(want)), want, "Text", s)
	}
	for _, l := range lists() {
		equalLists(t, r.Ints(len(l)), l, "Ints", s)
	}
	equal(t, r.Left(), 0, "Left", s)
	equal(t, r.End(), api.OK, "End", s)
}

// TestRoundTripInAnyOrder encodes and decodes values of all kinds, one behind the other.
func TestRoundTripInAnyOrder(t *testing.T) {
	rand := newRandom(4)
	for range 3000 {
		var all []byte
		var checks []func(r *wire.Reader, s string)
		for range rand.below(9) {
			u, n, text, l := rand.number(), rand.signed(), rand.bytes(200), rand.list(200)
			switch rand.below(5) {
			case 0:
				all = append(all, wire.Uint(u)...)
				checks = append(checks, func(r *wire.Reader, s string) { equal(t, r.Uint(), u, "Uint", s) })
			case 1:
				all = append(all, wire.Int(n)...)
				checks = append(checks, func(r *wire.Reader, s string) { equal(t, r.Int(), n, "Int", s) })
			case 2:
				all = append(all, wire.Text(text)...)
				checks = append(checks, func(r *wire.Reader, s string) { equal(t, r.Text(len(text)), text, "Text", s) })
			case 3:
				all = append(all, wire.Ints(l)...)
				checks = append(checks, func(r *wire.Reader, s string) { equalLists(t, r.Ints(len(l)), l, "Ints", s) })
			case 4:
				all = append(all, wire.Uint(u>>1)...)
				checks = append(checks, func(r *wire.Reader, s string) { equal(t, r.Count(int(u>>1)), int(u>>1), "Count", s) })
			}
		}
		s := string(all)
		r := wire.New(s)
		for _, check := range checks {
			check(r, s)
		}
		equal(t, r.End(), api.OK, "End", s)
	}
}

// P4.5

func TestShortestForm(t *testing.T) {
	check := func(s string) {
		t.Helper()
		for name, again := range map[string]func(r *wire.Reader) string{
			"Uint": func(r *wire.Reader) string { return wire.Uint(r.Uint()) },
			"Int":  func(r *wire.Reader) string { return wire.Int(r.Int()) },
			"Text": func(r *wire.Reader) string { return wire.Text(r.Text(math.MaxInt)) },
			"Ints": func(r *wire.Reader) string { return wire.Ints(r.Ints(math.MaxInt)) },
		} {
			r := wire.New(s)
			encoded := again(r)
			if r.Err() != api.OK {
				continue
			}
			if want := s[:len(s)-r.Left()]; encoded != want {
				t.Fatalf("%s decodes % x, but encodes % x", name, want, encoded)
			}
		}
	}
	for n := range 1 << 16 {
		check(string([]byte{byte(n), byte(n >> 8)}))
	}
	r := newRandom(5)
	for range 60000 {
		check(r.mess())
		check(r.bytes(14))
		check("\xff\xff\xff\xff\xff\xff\xff" + r.bytes(4))
	}
}

// P4.6

func TestPrefix(t *testing.T) {
	for _, n := range numbers() {
		short(t, wire.Uint(n), "Uint", func(r *wire.Reader) bool { return r.Uint() == 0 })
		short(t, wire.Uint(n), "Count", func(r *wire.Reader) bool { return r.Count(math.MaxInt) == 0 })
	}
	for _, n := range signedNumbers() {
		short(t, wire.Int(n), "Int", func(r *wire.Reader) bool { return r.Int() == 0 })
	}
	for _, s := range texts() {
		short(t, wire.Text(s), "Text", func(r *wire.Reader) bool { return r.Text(len(s)) == "" })
		short(t, wire.Text(s), "Text", func(r *wire.Reader) bool { return r.Text(math.MaxInt) == "" })
	}
	for _, l := range lists() {
		if len(l) < 1000 {
			short(t, wire.Ints(l), "Ints", func(r *wire.Reader) bool { return len(r.Ints(len(l))) == 0 })
		}
	}
	r := newRandom(6)
	for range 3000 {
		n, l := r.signed(), r.list(5)
		short(t, wire.Int(n), "Int", func(r *wire.Reader) bool { return r.Int() == 0 })
		short(t, wire.Ints(l), "Ints", func(r *wire.Reader) bool { return len(r.Ints(math.MaxInt)) == 0 })
	}
}

// short checks that all proper beginnings of an encoding end too early.
func short(t *testing.T, s, name string, zero func(r *wire.Reader) bool) {
	t.Helper()
	for k := range len(s) {
		r := wire.New(s[:k])
		if !zero(r) || r.Err() != api.ErrShort {
			t.Fatalf("%s of the first %d of %d bytes: error %d", name, k, len(s), r.Err())
		}
	}
}

// TestExamples has the examples of the chapter that are not among the cases above.
func TestExamples(t *testing.T) {
	r := wire.New("\xac\x02\x00")
	if n, left, i, e := r.Uint(), r.Left(), r.Int(), r.End(); n != 300 || left != 1 || i != 0 || e != api.OK {
		t.Error(n, left, i, e)
	}
	r = wire.New("\x00")
	if s, e := r.Text(-1), r.End(); s != "" || e != api.OK {
		t.Errorf("Text(-1): %q, error %d", s, e)
	}
	r = wire.New("\x00")
	if l, e := r.Ints(-1), r.End(); len(l) != 0 || e != api.OK {
		t.Errorf("Ints(-1): %v, error %d", l, e)
	}
}
