package wire_test

import (
	"math"
	"math/big"
	"slices"
	"strings"
	"testing"

	"imageeditor/api"
	"imageeditor/wire"
)

// whole returns n, and power 2^k, as unbounded integers.
func whole(n int) *big.Int { return big.NewInt(int64(n)) }

func power(k int) *big.Int { return new(big.Int).Lsh(whole(1), uint(k)) }

// varint is the encoding of n: its binary digits, cut into groups of seven from the end on.
func varint(n *big.Int) string {
	digits := n.Text(2)
	var b []byte
	for len(digits) > 7 {
		b = append(b, 128|group(digits[len(digits)-7:]))
		digits = digits[:len(digits)-7]
	}
	return string(append(b, group(digits)))
}

// group returns the number of up to seven binary digits.
func group(digits string) byte {
	n := byte(0)
	for i := range len(digits) {
		n = 2*n + digits[i] - '0'
	}
	return n
}

// zigzag returns the number whose varint is the encoding of the signed number n.
func zigzag(n *big.Int) *big.Int {
	double := new(big.Int).Mul(n, whole(2))
	if n.Sign() >= 0 {
		return double
	}
	return double.Sub(double.Neg(double), whole(1))
}

// zagzig is the inverse function of zigzag.
func zagzig(u *big.Int) *big.Int {
	if u.Bit(0) == 0 {
		return new(big.Int).Div(u, whole(2))
	}
	n := new(big.Int).Add(u, whole(1))
	return n.Neg(n.Div(n, whole(2)))
}

// value returns the number of the groups of all bytes of s, whether it is a varint or not.
func value(s string) *big.Int {
	n := new(big.Int)
	for _, b := range slices.Backward([]byte(s)) {
		n.Add(n.Mul(n, whole(128)), whole(int(b)%128))
	}
	return n
}

// first returns the varint of a number below 2^64 with which s begins. Without one, the error is ErrShort if s could become one by further bytes, and ErrForm if not.
func first(s string) (*big.Int, int, api.Errno) {
	for k := 1; k <= 10 && k <= len(s); k++ {
		n := value(s[:k])
		if n.Cmp(power(64)) < 0 && varint(n) == s[:k] {
			return n, k, api.OK
		}
	}
	ends := func(b byte) bool { return b < 128 }
	if len(s) < 10 && !slices.ContainsFunc([]byte(s), ends) {
		return nil, 0, api.ErrShort
	}
	return nil, 0, api.ErrForm
}

// model is a reader as the document describes it.
type model struct {
	text string
	at   int
	err  api.Errno
}

func (m *model) fail(e api.Errno) {
	if m.err == api.OK {
		m.err = e
	}
}

func (m *model) left() int {
	if m.err != api.OK {
		return 0
	}
	return len(m.text) - m.at
}

func (m *model) end() api.Errno {
	if m.err == api.OK && m.at < len(m.text) {
		return api.ErrExtra
	}
	return m.err
}

func (m *model) number() *big.Int {
	if m.err != api.OK {
		return whole(0)
	}
	n, k, e := first(m.text[m.at:])
	if e != api.OK {
		m.err = e
		return whole(0)
	}
	m.at += k
	return n
}

func (m *model) uint() uint64 { return m.number().Uint64() }

func (m *model) int() int { return int(zagzig(m.number()).Int64()) }

func (m *model) count(most int) int {
	n := m.number()
	if n.Cmp(whole(max(0, most))) > 0 {
		m.fail(api.ErrLimit)
		return 0
	}
	return int(n.Int64())
}

func (m *model) string(most int) string {
	n := m.count(most)
	if n > len(m.text)-m.at {
		m.fail(api.ErrShort)
	}
	if m.err != api.OK {
		return ""
	}
	m.at += n
	return m.text[m.at-n : m.at]
}

func (m *model) ints(most int) []int {
	var l []int
	for n := m.count(most); len(l) < n && m.err == api.OK; {
		l = append(l, m.int())
	}
	if m.err != api.OK {
		return nil
	}
	return l
}

// random returns pseudorandom numbers; the same ones in every run.
type random struct{ state uint64 }

func newRandom(seed uint64) *random { return &random{seed * 0x9e3779b97f4a7c15} }

func (r *random) next() uint64 {
	r.state ^= r.state << 13
	r.state ^= r.state >> 7
	r.state ^= r.state << 17
	return r.state
}

func (r *random) below(n int) int { return int(r.next() % uint64(n)) }

// number returns a number of any length.
func (r *random) number() uint64 { return r.next() >> r.below(64) }

// signed returns a number of any length and sign.
func (r *random) signed() int { return int(r.next()) >> r.below(64) }

// bytes returns up to n bytes.
func (r *random) bytes(n int) string {
	var b []byte
	for range r.below(n + 1) {
		b = append(b, byte(r.next()))
	}
	return string(b)
}

// list returns up to n numbers.
func (r *random) list(n int) []int {
	var l []int
	for range r.below(n + 1) {
		l = append(l, r.signed())
	}
	return l
}

// mess returns bytes like those that a reader may meet: pieces of encodings, at times with a byte that is changed, and runs of bytes that decide something.
func (r *random) mess() string {
	var b []byte
	for range r.below(5) {
		switch r.below(8) {
		case 0:
			b = append(b, r.bytes(12)...)
		case 1:
			b = append(b, strings.Repeat("\x80", r.below(12))...)
		case 2:
			b = append(b, strings.Repeat("\xff", r.below(12))...)
		case 3:
			b = append(b, byte(r.below(3)))
		case 4:
			b = append(b, wire.Text(r.bytes(5))...)
		case 5:
			b = append(b, wire.Ints(r.list(4))...)
		case 6:
			b = append(b, wire.Uint(r.number())...)
		case 7:
			b = append(b, wire.Int(r.signed())...)
		}
	}
	if len(b) > 0 && r.below(4) == 0 {
		b[r.below(len(b))] = byte(r.next())
	}
	return string(b)
}

// most returns a limit of any kind.
func (r *random) most() int {
	switch r.below(6) {
	case 0:
		return r.signed()
	case 1:
		return math.MaxInt - r.below(2)
	case 2:
		return -r.below(3)
	}
	return r.below(9)
}

// same compares a reader with the model.
func same(t *testing.T, r *wire.Reader, m *model) {
	t.Helper()
	if l, e, end := r.Left(), r.Err(), r.End(); l != m.left() || e != m.err || end != m.end() {
		t.Fatalf("% x at %d: Left %d, Err %d, End %d, expected %d, %d, %d", m.text, m.at, l, e, end, m.left(), m.err, m.end())
	}
}

// equal compares two results of decoding s.
func equal[T comparable](t *testing.T, got, want T, name, s string) {
	t.Helper()
	if got != want {
		t.Fatalf("%s of % .40x: %v, expected %v", name, s, got, want)
	}
}

// equalLists compares two lists; nil and the empty list are the same.
func equalLists(t *testing.T, got, want []int, name, s string) {
	t.Helper()
	if !slices.Equal(got, want) {
		t.Fatalf("%s of % .40x: %v, expected %v", name, s, got, want)
	}
}

// step calls the same function of a reader and of the model.
func step(t *testing.T, r *wire.Reader, m *model, which, most int) {
	t.Helper()
	rest := m.text[m.at:]
	switch which {
	case 0:
		equal(t, r.Uint(), m.uint(), "Uint", rest)
	case 1:
		equal(t, r.Int(), m.int(), "Int", rest)
	case 2:
		equal(t, r.Text(most), m.string(most), "Text", rest)
	case 3:
		equal(t, r.Count(most), m.count(most), "Count", rest)
	case 4:
		equalLists(t, r.Ints(most), m.ints(most), "Ints", rest)
	}
	same(t, r, m)
}
