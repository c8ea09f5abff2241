package pixel_test

import (
	"fmt"
	"math"
	"strings"
	"testing"

	"imageeditor/api"
	"imageeditor/pixel"
)

func px(r, g, b, a int) api.Pixel { return api.Pixel{R: r, G: g, B: b, A: a} }

// gray returns the gray opaque pixel with the value v.
func gray(v int) api.Pixel { return px(v, v, v, 65535) }

// P6.1

func TestValid(t *testing.T) {
	for _, p := range []api.Pixel{{}, gray(0), gray(65535), px(1, 2, 3, 4), px(7, 7, 7, 0), px(0, 65535, 0, 65535)} {
		if !pixel.Valid(p) || pixel.Limit(p) != p {
			t.Errorf("%v: Valid = %v, Limit = %v", p, pixel.Valid(p), pixel.Limit(p))
		}
	}
	for place := range 4 {
		for _, c := range [][2]int{{-1, 0}, {math.MinInt, 0}, {65536, 65535}, {math.MaxInt, 65535}} {
			v, want := [4]int{1, 2, 3, 4}, [4]int{1, 2, 3, 4}
			v[place], want[place] = c[0], c[1]
			if p := made(v); pixel.Valid(p) || pixel.Limit(p) != made(want) {
				t.Errorf("%v: Valid = %v, Limit = %v", p, pixel.Valid(p), pixel.Limit(p))
			}
		}
	}
	if got := pixel.Limit(px(-1, 70000, 5, 0)); got != px(0, 65535, 5, 0) {
		t.Errorf("Limit of a clear pixel: %v", got)
	}
}

func TestPre(t *testing.T) {
	for p, want := range map[api.Pixel]api.Pixel{
		px(65535, 32768, 0, 32768):                       px(32768, 16384, 0, 32768),
		px(7, 7, 7, 0):                                   {},
		px(65535, 65535, 65535, -5):                      {},
		px(32767, 32768, 65535, 1):                       px(0, 1, 1, 1),
		px(-9, 70000, math.MaxInt, 2):                    px(0, 2, 2, 2),
		px(1, 2, math.MinInt, 65536):                     px(1, 2, 0, 65535),
		px(math.MaxInt, math.MaxInt, 0, math.MaxInt):     px(65535, 65535, 0, 65535),
		px(math.MaxInt, math.MaxInt, 0, math.MinInt):     {},
		px(math.MinInt, math.MinInt, 65535, math.MaxInt): px(0, 0, 65535, 65535),
	} {
		if got := pixel.Pre(p); got != want {
			t.Errorf("Pre(%v) = %v, expected %v", p, got, want)
		}
	}
}

func TestStraight(t *testing.T) {
	for p, want := range map[api.Pixel]api.Pixel{
		px(32768, 16384, 0, 32768):          px(65535, 32768, 0, 32768),
		px(7, 7, 7, 0):                      {},
		px(7, 7, 7, -1):                     {},
		px(1, 2, 3, 2):                      px(32768, 65535, 65535, 2),
		px(1, 3, 65535, 4):                  px(16384, 49151, 65535, 4),
		px(math.MaxInt, math.MinInt, 5, 5):  px(65535, 0, 65535, 5),
		px(9, 8, 7, 70000):                  px(9, 8, 7, 65535),
		px(9, 8, math.MinInt, math.MaxInt):  px(9, 8, 0, 65535),
		px(9, 8, math.MaxInt, math.MinInt):  {},
		px(65535, 65534, 65536, 65534):      px(65535, 65535, 65535, 65534),
		px(32767, 32768, 0, 65534):          px(32768, 32769, 0, 65534),
		px(10000, 20000, 30000, 1<<40):      px(10000, 20000, 30000, 65535),
		px(-10000, -20000, -30000, 1000000): px(0, 0, 0, 65535),
	} {
		if got := pixel.Straight(p); got != want {
			t.Errorf("Straight(%v) = %v, expected %v", p, got, want)
		}
	}
}

func TestFade(t *testing.T) {
	for _, c := range []struct {
		p    api.Pixel
		a    int
		want api.Pixel
	}{
		{px(1, 2, 3, 65535), 100, px(1, 2, 3, 100)},
		{px(1, 2, 3, 65535), 0, api.Pixel{}},
		{px(1, 2, 3, 65535), -1, api.Pixel{}},
		{px(1, 2, 3, 65535), math.MinInt, api.Pixel{}},
		{px(1, 2, 3, 9), 65535, px(1, 2, 3, 9)},
		{px(1, 2, 3, 9), 65536, px(1, 2, 3, 9)},
		{px(1, 2, 3, 9), math.MaxInt, px(1, 2, 3, 9)},
		{px(7, 7, 7, 1), 32767, api.Pixel{}},
		{px(7, 7, 7, 1), 32768, px(7, 7, 7, 1)},
		{px(7, 7, 7, 0), 65535, api.Pixel{}},
		{px(7, 7, 7, math.MinInt), 65535, api.Pixel{}},
		{px(-7, 70000, 7, math.MaxInt), 5, px(0, 65535, 7, 5)},
		{px(-7, 70000, 7, 0), 65535, api.Pixel{}},
	} {
		if got := pixel.Fade(c.p, c.a); got != c.want {
			t.Errorf("Fade(%v, %d) = %v, expected %v", c.p, c.a, got, c.want)
		}
	}
}

// P6.2

func TestOpaque(t *testing.T) {
	for v := range 65536 {
		p := px(v, 65535-v, v*7%65536, 65535)
		if pre := pixel.Pre(p); pre != p || pixel.Straight(pre) != p {
			t.Fatalf("Pre(%v) = %v, straight %v", p, pre, pixel.Straight(pre))
		}
	}
}

// checkBack checks the bound of P6.2, as a comparison of integers.
func checkBack(t *testing.T, p api.Pixel) {
	t.Helper()
	back := pixel.Straight(pixel.Pre(p))
	v, w := values(p), values(back)
	if w[3] != v[3] {
		t.Fatalf("Straight(Pre(%v)) = %v", p, back)
	}
	for i := range 3 {
		if d := max(v[i]-w[i], w[i]-v[i]); 2*v[3]*d > 65535+v[3] {
			t.Fatalf("Straight(Pre(%v)) = %v", p, back)
		}
	}
}

func TestBack(t *testing.T) {
	for a := 1; a <= 300; a++ {
		for c := 0; c < 65536; c += 331 {
			checkBack(t, px(c, 65535-c, c*c%65536, a))
		}
	}
	for a := 1; a < 65536; a++ {
		checkBack(t, px(a, 65535-a, a*31%65536, a))
		checkBack(t, px(65535, 32768, 32767, a))
	}
	r := random(6)
	for range 50000 {
		checkBack(t, r.seen())
	}
}

// P6.3

func TestMix(t *testing.T) {
	clear := px(65535, 3, 2, 0)
	for _, c := range []struct {
		a, b api.Pixel
		t    int
		want api.Pixel
	}{
		{gray(0), px(65535, 0, 0, 65535), 32768, px(32768, 0, 0, 65535)},
		{gray(0), px(65535, 0, 0, 65535), 32767, px(32767, 0, 0, 65535)},
		{api.Pixel{}, px(9, 9, 9, 65535), 32768, px(9, 9, 9, 32768)},
		{clear, px(9, 9, 9, 65535), 32768, px(9, 9, 9, 32768)},
		{px(65535, 0, 0, 1), clear, 40000, api.Pixel{}},
		{px(65535, 0, 0, 1), clear, 32768, api.Pixel{}},
		{px(65535, 0, 0, 1), clear, 32767, px(65535, 0, 0, 1)},
		{clear, clear, 32768, api.Pixel{}},
		{clear, clear, 0, api.Pixel{}},
		{gray(1), gray(2), 65535, gray(2)},
		{gray(0), px(30000, 0, 0, 21845), 32768, px(7500, 0, 0, 43690)},
		{px(-5, 70000, 0, 65536), px(5, 0, 0, 9), math.MinInt, px(0, 65535, 0, 65535)},
		{px(-5, 70000, 0, 65536), px(5, 0, 70000, 9), math.MaxInt, px(5, 0, 65535, 9)},
		{px(1, 1, 1, math.MinInt), px(math.MaxInt, 5, math.MinInt, math.MaxInt), 13107, px(65535, 5, 0, 13107)},
	} {
		if got := pixel.Mix(c.a, c.b, c.t); got != c.want {
			t.Errorf("Mix(%v, %v, %d) = %v, expected %v", c.a, c.b, c.t, got, c.want)
		}
	}
}

func TestMixEnds(t *testing.T) {
	r := random(7)
	for i := range 20000 {
		a, b := r.seen(), r.valid()
		if i%5 == 0 {
			a.A = 1 + i%3
		}
		n := r.value()
		if pixel.Mix(a, b, 0) != a || pixel.Mix(b, a, 65535) != a || pixel.Mix(a, a, n) != a {
			t.Fatalf("ends of %v and %v at %d", a, b, n)
		}
		b.A = 0
		if pixel.Mix(b, a, 0) != (api.Pixel{}) || pixel.Mix(a, b, 65535) != (api.Pixel{}) || pixel.Mix(b, b, n) != (api.Pixel{}) {
			t.Fatalf("the clear pixel %v and %v at %d", b, a, n)
		}
	}
}

// between reports whether every value of m is between those of a and b.
func between(m, a, b api.Pixel) bool {
	v, w := values(a), values(b)
	for i, x := range values(m) {
		if x < min(v[i], w[i]) || x > max(v[i], w[i]) {
			return false
		}
	}
	return true
}

func TestMixBetween(t *testing.T) {
	doubles(8, func(a, b api.Pixel, n int) {
		n = slowUnit(n)
		m := pixel.Mix(a, b, n)
		if other := pixel.Mix(b, a, 65535-n); m != other {
			t.Fatalf("Mix(%v, %v, %d) = %v, exchanged %v", a, b, n, m, other)
		}
		a, b = slowLimit(a), slowLimit(b)
		if a.A != 0 && b.A != 0 && m != (api.Pixel{}) && !between(m, a, b) {
			t.Fatalf("Mix(%v, %v, %d) = %v", a, b, n, m)
		}
	})
}

// P6.4

func TestLuma(t *testing.T) {
	for v := range 65536 {
		if got := pixel.Luma(px(v, v, v, v*5%65536)); got != v {
			t.Fatalf("Luma of gray %d: %d", v, got)
		}
	}
	for p, want := range map[api.Pixel]int{
		px(65535, 0, 0, 0): 13933, px(0, 65535, 0, 0): 46871, px(0, 0, 65535, 0): 4731,
		px(2, 0, 0, 1): 0, px(3, 0, 0, 1): 1, px(0, 1, 0, 1): 1, px(0, 0, 6, 1): 0, px(0, 0, 7, 1): 1,
		px(math.MaxInt, math.MinInt, 0, 9): 13933, px(-1, -1, 65536, math.MinInt): 4731,
	} {
		if got := pixel.Luma(p); got != want {
			t.Errorf("Luma(%v) = %d, expected %d", p, got, want)
		}
	}
}

func TestLumaMonotonic(t *testing.T) {
	r := random(9)
	for range 30000 {
		v := values(r.pixel())
		more := v
		i := r.below(3)
		more[i] = max(v[i], r.value())
		if r.below(2) == 0 {
			more[i] = max(v[i], v[i]+1)
		}
		more[3] = r.value()
		if a, b := pixel.Luma(made(v)), pixel.Luma(made(more)); a > b {
			t.Fatalf("Luma of %v and %v: %d, %d", v, more, a, b)
		}
	}
	last := 0
	for v := range 65536 {
		l := pixel.Luma(px(5, v, 9, 0))
		if l < last {
			t.Fatalf("Luma falls at %d", v)
		}
		last = l
	}
}

func TestDist(t *testing.T) {
	if got := pixel.Dist(api.Pixel{}, px(5, 0, 9, 2)); got != 9 {
		t.Errorf("Dist = %d", got)
	}
	for place := range 4 {
		v := [4]int{5, 5, 5, 5}
		v[place] = 65535
		if got := pixel.Dist(px(4, 5, 6, 5), made(v)); got != 65535-[4]int{4, 5, 6, 5}[place] {
			t.Errorf("Dist at %d = %d", place, got)
		}
	}
	if got := pixel.Dist(px(math.MinInt, 0, 0, 0), px(math.MaxInt, 0, 0, 0)); got != 65535 {
		t.Errorf("Dist of limited pixels = %d", got)
	}
	if got := pixel.Dist(px(-1, 65536, -9, 1<<40), px(0, 65535, math.MinInt, math.MaxInt)); got != 0 {
		t.Errorf("Dist of equal limited pixels = %d", got)
	}
	// Clear pixels keep their channels here.
	if got := pixel.Dist(px(7, 7, 7, 0), api.Pixel{}); got != 7 {
		t.Errorf("Dist of clear pixels = %d", got)
	}
}

func TestDistMetric(t *testing.T) {
	r := random(10)
	for range 30000 {
		a, b, c := r.pixel(), r.pixel(), r.pixel()
		if r.below(3) == 0 {
			v := values(slowLimit(a))
			v[r.below(4)] += r.below(3) - 1
			b = made(v)
		}
		ab := pixel.Dist(a, b)
		if ab != pixel.Dist(b, a) || (ab == 0) != (slowLimit(a) == slowLimit(b)) || pixel.Dist(a, a) != 0 {
			t.Fatalf("Dist of %v and %v: %d", a, b, ab)
		}
		if ac, bc := pixel.Dist(a, c), pixel.Dist(b, c); ac > ab+bc {
			t.Fatalf("Dist of %v, %v and %v: %d, %d, %d", a, b, c, ab, bc, ac)
		}
	}
}

// P6.5

func TestEight(t *testing.T) {
	for v := range 256 {
		if got := pixel.From8(v); got != 257*v || pixel.To8(got) != v {
			t.Errorf("From8(%d) = %d, back %d", v, got, pixel.To8(got))
		}
		for d := -128; d <= 128; d++ {
			if got := pixel.To8(257*v + d); got != v {
				t.Errorf("To8(%d) = %d, expected %d", 257*v+d, got, v)
			}
		}
	}
	for v, want := range map[int]int{-1: 0, math.MinInt: 0, 256: 65535, 65535: 65535, math.MaxInt: 65535} {
		if got := pixel.From8(v); got != want {
			t.Errorf("From8(%d) = %d", v, got)
		}
	}
	for v, want := range map[int]int{128: 0, 129: 1, -1: 0, math.MinInt: 0, 65406: 254, 65407: 255, 65536: 255, math.MaxInt: 255} {
		if got := pixel.To8(v); got != want {
			t.Errorf("To8(%d) = %d", v, got)
		}
	}
}

func TestPrint(t *testing.T) {
	for p, want := range map[api.Pixel]string{
		px(65535, 0, 32768, 65535):              "#ff0080ff",
		{}:                                      "#00000000",
		px(7, 700, 7000, 0):                     "#00031b00",
		px(257, 2570, 4112, 61166):              "#010a10ee",
		px(math.MinInt, math.MaxInt, -1, 65536): "#00ff00ff",
		px(128, 129, 65406, 65407):              "#0001feff",
		px(0x12*257, 0x34*257+128, 0x56*257-128, 0x78*257): "#12345678",
	} {
		if got := pixel.Print(p); got != want {
			t.Errorf("Print(%v) = %q, expected %q", p, got, want)
		}
	}
}

func TestPrintParse(t *testing.T) {
	pixels(11, func(p api.Pixel) {
		s := pixel.Print(p)
		back, e := pixel.Parse(s)
		v, w := values(slowLimit(p)), values(back)
		if e != api.OK || len(s) != 9 || s != strings.ToLower(s) {
			t.Fatalf("Print(%v) = %q, parsed %v, %d", p, s, back, int(e))
		}
		for i := range v {
			if d := v[i] - w[i]; w[i] != pixel.From8(pixel.To8(v[i])) || d < -128 || d > 128 {
				t.Fatalf("Print(%v) = %q, parsed %v", p, s, back)
			}
		}
	})
	r := random(12)
	for i := range 20000 {
		s := fmt.Sprintf("#%08x", uint32(r.next()))
		if i < 256 {
			s = fmt.Sprintf("#%02x%02x%02x%02x", i, 255-i, i*3%256, i*7%256)
		}
		p, e := pixel.Parse(s)
		if e != api.OK || pixel.Print(p) != s {
			t.Fatalf("Parse(%q) = %v, %d, printed %q", s, p, int(e), pixel.Print(p))
		}
		upper, e := pixel.Parse(strings.ToUpper(s))
		if e != api.OK || upper != p {
			t.Fatalf("Parse(%q) = %v, %d", strings.ToUpper(s), upper, int(e))
		}
		long, e := pixel.Parse(s[:7])
		if e != api.OK || long != px(p.R, p.G, p.B, 65535) {
			t.Fatalf("Parse(%q) = %v, %d", s[:7], long, int(e))
		}
	}
}

func TestParse(t *testing.T) {
	for s, want := range map[string]api.Pixel{
		"#f0a":      px(65535, 0, 43690, 65535),
		"#F0A":      px(65535, 0, 43690, 65535),
		"#123":      px(0x11*257, 0x22*257, 0x33*257, 65535),
		"#FF0080":   px(65535, 0, 32896, 65535),
		"#01020304": px(257, 514, 771, 1028),
		"#aBcDeF09": px(0xab*257, 0xcd*257, 0xef*257, 9*257),
		// A clear notation keeps its channels, so that it is printed as it was.
		"#ff000000": px(65535, 0, 0, 0),
		"#000":      px(0, 0, 0, 65535),
		"#00000000": {},
	} {
		if p, e := pixel.Parse(s); p != want || e != api.OK {
			t.Errorf("Parse(%q) = %v, %d; expected %v", s, p, int(e), want)
		}
	}
}

func checkBad(t *testing.T, s string) {
	t.Helper()
	if p, e := pixel.Parse(s); p != (api.Pixel{}) || e != api.ErrForm {
		t.Errorf("Parse(%q) = %v, %d; expected ErrForm", s, p, int(e))
	}
}

func TestParseBad(t *testing.T) {
	for n := range 11 {
		s := strings.Repeat("1", n)
		checkBad(t, s)
		if n != 3 && n != 6 && n != 8 {
			checkBad(t, "#"+s)
		}
	}
	for _, s := range []string{"#", "##", "####", "###ffffff", "123456", "1234567", "#ffff#", "０００", "#０", "#ＦＦ", strings.Repeat("#fff", 3), "#" + strings.Repeat("f", 300)} {
		checkBad(t, s)
	}
	for _, good := range []string{"#fff", "#012345", "#01234567"} {
		for place := range len(good) {
			for b := range 256 {
				if place == 0 && b == '#' || place > 0 && strings.IndexByte("0123456789abcdefABCDEF", byte(b)) >= 0 {
					continue
				}
				checkBad(t, good[:place]+string([]byte{byte(b)})+good[place+1:])
			}
		}
	}
}
