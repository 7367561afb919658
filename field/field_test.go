package field_test

import (
	"bytes"
	"math/big"
	"math/rand"
	"slices"
	"testing"

	"greffier/api"
	"greffier/field"
)

// power is 2 to the power of n, and c.
func power(n uint, c int64) *big.Int {
	return new(big.Int).Add(new(big.Int).Lsh(big.NewInt(1), n), big.NewInt(c))
}

// p is 2^255 - 19.
var p = power(255, -19)

// less is a number less another one.
func less(n, m *big.Int) *big.Int { return new(big.Int).Sub(n, m) }

// rest is a number's rest, divided by p.
func rest(n *big.Int) *big.Int { return new(big.Int).Mod(n, p) }

// row are a number's 32 bytes, the lowest first.
func row(n *big.Int) []byte {
	b := n.FillBytes(make([]byte, 32))
	slices.Reverse(b)
	return b
}

// number is an element's number.
func number(x field.Elem) *big.Int {
	b := x.Bytes()
	slices.Reverse(b[:])
	return new(big.Int).SetBytes(b[:])
}

// elem is a number's element.
func elem(t *testing.T, n *big.Int) field.Elem {
	t.Helper()
	x, e := field.Get(row(n))
	if e != api.OK {
		t.Fatalf("P5.1: Get of %x: error %d", n, e)
	}
	return x
}

// edges are numbers below p at which limbs, or the whole, go over.
func edges() []*big.Int {
	var l []*big.Int
	for c := range int64(21) {
		l = append(l, big.NewInt(c), less(p, big.NewInt(c+1)), power(254, c-10))
	}
	for _, n := range []uint{8, 32, 51, 52, 63, 64, 65, 127, 128, 129, 191, 192, 193, 253} {
		l = append(l, power(n, -1), power(n, 0), power(n, 1), power(n, -19), less(p, power(n, 0)), less(p, power(n, -19)))
		// Twice these have a row of ones, at the end of which something is carried over.
		l = append(l, new(big.Int).Add(power(254, 0), power(n-1, -1)), new(big.Int).Add(power(254, -20), power(n-1, 0)))
	}
	return l
}

// some are random numbers below p, the same ones each time; every other one has long rows of ones or zeros.
func some(count int) []*big.Int {
	source := rand.New(rand.NewSource(5))
	var l []*big.Int
	for i := range count {
		n := new(big.Int).Rand(source, p)
		if i%2 == 1 {
			n.SetBit(n, source.Intn(255), 1)
			n = less(new(big.Int).Lsh(n, uint(source.Intn(255))), big.NewInt(int64(source.Intn(2))))
		}
		l = append(l, rest(n))
	}
	return l
}

func TestOf(t *testing.T) {
	for _, n := range []uint64{0, 1, 2, 18, 19, 20, 255, 256, 1<<32 - 1, 1 << 32, 1<<51 - 1, 1 << 51, 1 << 52, 1 << 63, 1<<64 - 19, 1<<64 - 1} {
		want := new(big.Int).SetUint64(n)
		if got := number(field.Of(n)); got.Cmp(want) != 0 {
			t.Errorf("P5.1: Of(%d) is %d", n, got)
		}
		if !field.Of(n).Same(elem(t, want)) {
			t.Errorf("P5.1: Of(%d) isn't the element of its bytes", n)
		}
	}
}

func TestGetAndBytes(t *testing.T) {
	l := append(edges(), some(300)...)
	for n := range uint(255) {
		l = append(l, power(n, 0), power(n, -1), less(power(255, -20), power(n, -1)))
	}
	for _, n := range l {
		x, e := field.Get(row(n))
		b := x.Bytes()
		if e != api.OK || !bytes.Equal(b[:], row(n)) {
			t.Errorf("P5.1: Get of %x: bytes %x, error %d", row(n), b, e)
		}
	}
	b := make([]byte, 32)
	for i := range b {
		b[i] = byte(i + 1)
	}
	if x, e := field.Get(b); e != api.OK || x.Bytes() != [32]byte(b) {
		t.Errorf("P5.1: Get of %x: bytes %x, error %d", b, x.Bytes(), e)
	}
}

func TestGetTooHigh(t *testing.T) {
	l := []*big.Int{power(256, -1), power(256, -18), power(256, -19), power(256, -20), power(255, 0), power(255, -1)}
	for c := range int64(60) {
		l = append(l, power(255, -19+c), power(256, -38+c%38), power(256, -1-c))
	}
	for n := range uint(256) {
		high := new(big.Int).Add(p, power(n, 0))
		if high.BitLen() <= 256 {
			l = append(l, high)
		}
		l = append(l, less(power(256, -1), power(n, 0)))
	}
	for _, n := range edges() {
		l = append(l, new(big.Int).Add(p, n), new(big.Int).Add(power(255, 0), n))
	}
	for _, n := range l {
		if n.BitLen() > 256 || n.Cmp(p) < 0 {
			t.Fatalf("%x isn't a number of this test", n)
		}
		if x, e := field.Get(row(n)); e != api.ErrRange || x != (field.Elem{}) {
			t.Errorf("P5.1: Get of %x, which is p or above: bytes %x, error %d", row(n), x.Bytes(), e)
		}
	}
}

func TestGetLength(t *testing.T) {
	for n := range 100 {
		want := api.ErrShort
		if n > 32 {
			want = api.ErrLong
		}
		// Of several errors the first one: that such bytes would be too high, too, isn't told.
		for _, b := range [][]byte{make([]byte, n), bytes.Repeat([]byte{255}, n)} {
			if x, e := field.Get(b); n != 32 && (e != want || x != (field.Elem{})) {
				t.Errorf("P5.1, P0.2: Get of %d bytes of %d: bytes %x, error %d; want error %d", n, b[0], x.Bytes(), e, want)
			}
		}
	}
	if x, e := field.Get(make([]byte, 1<<20)); e != api.ErrLong || x != (field.Elem{}) {
		t.Errorf("P5.1: Get of 2^20 bytes: error %d", e)
	}
}

func TestSumsAndProducts(t *testing.T) {
	l := append(edges(), some(100)...)
	for _, n := range l {
		x := elem(t, n)
		for _, m := range l {
			y := elem(t, m)
			for _, c := range []struct {
				name string
				got  field.Elem
				want *big.Int
			}{
				{"and", x.Add(y), new(big.Int).Add(n, m)},
				{"less", x.Sub(y), less(n, m)},
				{"times", x.Mul(y), new(big.Int).Mul(n, m)},
			} {
				if want := rest(c.want); number(c.got).Cmp(want) != 0 {
					t.Fatalf("P5.1: %x %s %x is %x; want %x", n, c.name, m, number(c.got), want)
				}
			}
		}
	}
}

// TestCarriedOver holds products just beside where something goes over: each is a small number, or one just below p or 2^255 / 2.
func TestCarriedOver(t *testing.T) {
	var l []*big.Int
	for c := range int64(40) {
		l = append(l, big.NewInt(c), less(p, big.NewInt(c+1)), power(254, -c), power(64, -c), power(192, -c))
	}
	for _, n := range append(edges(), some(60)...) {
		if n.Sign() == 0 {
			continue
		}
		back := new(big.Int).ModInverse(n, p)
		for _, want := range l {
			m := rest(new(big.Int).Mul(back, want))
			if got := elem(t, n).Mul(elem(t, m)); number(got).Cmp(want) != 0 || !got.Same(elem(t, want)) {
				t.Fatalf("P5.1: %x times %x is %x; want %x", n, m, number(got), want)
			}
		}
	}
}

func TestExample(t *testing.T) {
	b := field.Of(2).Sub(field.Of(3)).Bytes()
	if want := row(less(p, big.NewInt(1))); !bytes.Equal(b[:], want) {
		t.Errorf("P5.1: 2 less 3: bytes %x; want %x", b, want)
	}
}

func TestZeroValue(t *testing.T) {
	var x field.Elem
	if !x.Same(field.Of(0)) || x.Bytes() != [32]byte{} || x.Odd() {
		t.Errorf("P5.1: the zero value has the bytes %x; it isn't 0", x.Bytes())
	}
	y := field.Of(7)
	if !x.Add(y).Same(y) || !y.Sub(x).Same(y) || !y.Mul(x).Same(x) {
		t.Error("P5.1: the zero value isn't 0 in sums and products")
	}
}

func TestInv(t *testing.T) {
	one := field.Of(1)
	for _, n := range append(edges(), some(100)...) {
		x := elem(t, n)
		if n.Sign() == 0 {
			if !x.Inv().Same(field.Of(0)) {
				t.Errorf("P5.1: Inv of 0 is %x", number(x.Inv()))
			}
			continue
		}
		if want := new(big.Int).ModInverse(n, p); number(x.Inv()).Cmp(want) != 0 {
			t.Errorf("P5.1: Inv of %x is %x; want %x", n, number(x.Inv()), want)
		}
		if !x.Mul(x.Inv()).Same(one) || !x.Inv().Mul(x).Same(one) || !x.Inv().Inv().Same(x) {
			t.Errorf("P5.2: %x times its Inv isn't 1", n)
		}
	}
	if (field.Elem{}).Inv() != (field.Elem{}) {
		t.Error("P5.1: Inv of the zero value isn't 0")
	}
}

// root is the even root, or nil.
func root(n *big.Int) *big.Int {
	r := new(big.Int).ModSqrt(n, p)
	if r != nil && r.Bit(0) == 1 {
		r = less(p, r)
	}
	return r
}

func TestRoot(t *testing.T) {
	l := append(edges(), some(200)...)
	for _, n := range slices.Clone(l) {
		l = append(l, rest(new(big.Int).Mul(n, n)), rest(new(big.Int).Neg(n)))
	}
	found, missed := 0, 0
	for _, n := range l {
		got, ok := elem(t, n).Root()
		want := root(n)
		if want == nil {
			missed++
			if ok || got != (field.Elem{}) {
				t.Errorf("P5.1: Root of %x, which has none: %x, %v", n, number(got), ok)
			}
			continue
		}
		found++
		if !ok || number(got).Cmp(want) != 0 || got.Odd() || !got.Mul(got).Same(elem(t, n)) {
			t.Errorf("P5.1: Root of %x: %x, %v; want %x", n, number(got), ok, want)
		}
	}
	if found == 0 || missed == 0 {
		t.Errorf("%d roots, and %d numbers without one: this tests too little", found, missed)
	}
}

func TestRootOfFew(t *testing.T) {
	for _, c := range []struct {
		n    uint64
		want uint64
		ok   bool
	}{{0, 0, true}, {4, 2, true}, {16, 4, true}, {2, 0, false}, {8, 0, false}, {1 << 62, 1 << 31, true}} {
		if got, ok := field.Of(c.n).Root(); ok != c.ok || !got.Same(field.Of(c.want)) {
			t.Errorf("P5.1: Root of %d: %x, %v; want %d, %v", c.n, number(got), ok, c.want, c.ok)
		}
	}
	// Of the roots 1 and p - 1 it is the other one that is even.
	if got, ok := field.Of(1).Root(); !ok || number(got).Cmp(less(p, big.NewInt(1))) != 0 {
		t.Errorf("P5.1: Root of 1: %x, %v", number(got), ok)
	}
	minus := field.Of(0).Sub(field.Of(1))
	if got, ok := minus.Root(); !ok || got.Odd() || !got.Mul(got).Same(minus) {
		t.Errorf("P5.1: Root of p - 1: %x, %v", number(got), ok)
	}
}

func TestSame(t *testing.T) {
	l := append(edges(), some(20)...)
	for _, n := range l {
		for _, m := range l {
			if got := elem(t, n).Same(elem(t, m)); got != (n.Cmp(m) == 0) {
				t.Fatalf("P5.1: whether %x and %x are the same: %v", n, m, got)
			}
		}
		x := elem(t, n)
		for i := range 255 {
			m := new(big.Int).SetBit(n, i, 1-n.Bit(i))
			if m.Cmp(p) < 0 && x.Same(elem(t, m)) {
				t.Fatalf("P5.1: %x is the same with another bit %d", n, i)
			}
		}
		// However it came about, it is the same.
		y := elem(t, l[7])
		for i, z := range []field.Elem{x.Add(y).Sub(y), x.Sub(y).Add(y), y.Sub(y.Sub(x)), x.Mul(y).Mul(y.Inv()), x.Add(x).Mul(field.Of(2).Inv())} {
			if !z.Same(x) || !x.Same(z) || z != x {
				t.Fatalf("P5.1: %x isn't the same, come about in way %d", n, i)
			}
		}
	}
}

func TestOdd(t *testing.T) {
	for _, n := range append(edges(), some(100)...) {
		if got := elem(t, n).Odd(); got != (n.Bit(0) == 1) {
			t.Errorf("P5.1: whether %x is odd: %v", n, got)
		}
	}
	// What is odd as a number isn't after it went round.
	last := field.Of(0).Sub(field.Of(1))
	if last.Odd() || last.Add(field.Of(1)).Odd() || !last.Add(field.Of(2)).Odd() {
		t.Error("P5.1: whether p - 1, 0 and 1 are odd")
	}
}

func TestLaws(t *testing.T) {
	l := append(edges()[:30], some(12)...)
	for _, n := range l {
		x := elem(t, n)
		for _, m := range l {
			y := elem(t, m)
			if !x.Add(y).Same(y.Add(x)) || !x.Mul(y).Same(y.Mul(x)) {
				t.Fatalf("P5.2: %x and %x may not be turned", n, m)
			}
			if !x.Sub(y).Add(y.Sub(x)).Same(field.Of(0)) {
				t.Fatalf("P5.2: %x less %x and back isn't 0", n, m)
			}
			for _, o := range l {
				z := elem(t, o)
				if !x.Add(y).Add(z).Same(x.Add(y.Add(z))) || !x.Mul(y).Mul(z).Same(x.Mul(y.Mul(z))) {
					t.Fatalf("P5.2: %x, %x and %x may not be put together in any order", n, m, o)
				}
				if !x.Mul(y.Add(z)).Same(x.Mul(y).Add(x.Mul(z))) {
					t.Fatalf("P5.2: %x times %x and %x isn't the sum of the products", n, m, o)
				}
			}
		}
	}
}

func TestAnswersAreNew(t *testing.T) {
	x := field.Of(5)
	b := x.Bytes()
	b[0] = 9
	if x.Bytes()[0] != 5 || !x.Same(field.Of(5)) {
		t.Error("P0.3: who writes into the bytes writes into the element")
	}
	y := field.Of(6)
	z := x
	x.Add(y)
	x.Sub(y)
	x.Mul(y)
	x.Inv()
	x.Root()
	if !x.Same(field.Of(5)) || !y.Same(field.Of(6)) || !z.Same(x) {
		t.Error("P0.3: an element that was reckoned with is another one")
	}
}

func TestArguments(t *testing.T) {
	for _, n := range []int{0, 31, 32, 33} {
		whole := bytes.Repeat([]byte{77}, 64)
		x, e := field.Get(whole[:n])
		if !bytes.Equal(whole, bytes.Repeat([]byte{77}, 64)) {
			t.Errorf("P0.3: Get changes the %d bytes, or the room behind them: %d", n, whole)
		}
		clear(whole)
		if y, f := field.Get(bytes.Repeat([]byte{77}, n)); y != x || f != e {
			t.Errorf("P0.3: Get keeps the %d bytes", n)
		}
	}
}

func TestNilIsEmpty(t *testing.T) {
	for _, b := range [][]byte{nil, {}} {
		if x, e := field.Get(b); x != (field.Elem{}) || e != api.ErrShort {
			t.Errorf("P0.4: Get of no bytes: bytes %x, error %d", x.Bytes(), e)
		}
	}
}

func TestAgain(t *testing.T) {
	type answers struct {
		sum, diff, prod, inv, root field.Elem
		ok                         bool
	}
	ask := func(x, y field.Elem) answers {
		r, ok := x.Root()
		return answers{x.Add(y), x.Sub(y), x.Mul(y), x.Inv(), r, ok}
	}
	l := some(20)
	var first []answers
	for range 3 {
		var now []answers
		for _, n := range l {
			now = append(now, ask(elem(t, n), elem(t, l[0])))
		}
		if first == nil {
			first = now
		}
		if !slices.Equal(now, first) {
			t.Fatal("P0.5: the same calls answer otherwise")
		}
	}
}
