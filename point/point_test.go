package point_test

import (
	"bytes"
	"crypto/ed25519"
	"crypto/sha512"
	"math/big"
	"math/rand"
	"slices"
	"testing"

	"greffier/api"
	"greffier/point"
)

// What the chapter tells, in the library's numbers: p, d and the order of the base.
var (
	p     = beside(255, -19)
	d     = over(big.NewInt(-121665), big.NewInt(121666))
	order = plus(beside(252, 0), decimal("27742317777372353535851937790883648493"))
)

// beside is 2 to the power of n, and c.
func beside(n uint, c int64) *big.Int {
	return plus(new(big.Int).Lsh(big.NewInt(1), n), big.NewInt(c))
}

// decimal is the number of digits.
func decimal(digits string) *big.Int {
	n, _ := new(big.Int).SetString(digits, 10)
	return n
}

// plus, minus and times are those of two numbers.
func plus(n, m *big.Int) *big.Int  { return new(big.Int).Add(n, m) }
func minus(n, m *big.Int) *big.Int { return new(big.Int).Sub(n, m) }
func times(n, m *big.Int) *big.Int { return new(big.Int).Mul(n, m) }

// rest is a number's rest, divided by p.
func rest(n *big.Int) *big.Int { return new(big.Int).Mod(n, p) }

// over is the element that times m is n.
func over(n, m *big.Int) *big.Int { return rest(times(n, new(big.Int).ModInverse(rest(m), p))) }

// row32 are a number's 32 bytes, the lowest first.
func row32(n *big.Int) (row [32]byte) {
	n.FillBytes(row[:])
	slices.Reverse(row[:])
	return row
}

// pair is a point as the chapter tells it.
type pair struct{ x, y *big.Int }

// zero and base are these, by the chapter's words.
var (
	zero = pair{big.NewInt(0), big.NewInt(1)}
	base = func() pair { b, _ := pairOf(over(big.NewInt(4), big.NewInt(5)), 0); return b }()
)

// pairOf is the point of y and the lowest bit of x, if there is one.
func pairOf(y *big.Int, bit uint) (pair, bool) {
	square := times(y, y)
	x := new(big.Int).ModSqrt(over(minus(square, big.NewInt(1)), plus(times(d, square), big.NewInt(1))), p)
	if x == nil || x.Sign() == 0 && bit == 1 {
		return pair{}, false
	}
	if x.Bit(0) != bit {
		x = minus(p, x)
	}
	return pair{x, y}, true
}

// fits tells whether it is on the curve.
func (a pair) fits() bool {
	xx, yy := times(a.x, a.x), times(a.y, a.y)
	return rest(minus(yy, xx)).Cmp(rest(plus(times(d, times(xx, yy)), big.NewInt(1)))) == 0
}

// sum is the sum, by the chapter's words.
func (a pair) sum(b pair) pair {
	xx, yy := times(a.x, b.x), times(a.y, b.y)
	part := times(d, times(xx, yy))
	x := over(plus(times(a.x, b.y), times(a.y, b.x)), plus(big.NewInt(1), part))
	return pair{x, over(plus(yy, xx), minus(big.NewInt(1), part))}
}

// neg is the point on the other side.
func (a pair) neg() pair { return pair{rest(minus(p, a.x)), a.y} }

// same tells whether both are the same.
func (a pair) same(b pair) bool { return a.x.Cmp(b.x) == 0 && a.y.Cmp(b.y) == 0 }

// bytes are a point's bytes.
func (a pair) bytes() [32]byte { return row32(new(big.Int).SetBit(a.y, 255, a.x.Bit(0))) }

// powers are the point's multiples by 1, 2, 4 .. 2^255.
func (a pair) powers() (all [256]pair) {
	for i := range all {
		all[i] = a
		a = a.sum(a)
	}
	return all
}

// multiple is the multiple by a number, of a point that has these powers.
func multiple(powers *[256]pair, n *big.Int) pair {
	m := zero
	for i := range n.BitLen() {
		if n.Bit(i) == 1 {
			m = m.sum(powers[i])
		}
	}
	return m
}

// turns are the 8 points that are zero, taken 8 times: the multiples of one of them by 0 to 7.
func turns() []pair {
	for y := big.NewInt(2); ; y = plus(y, big.NewInt(1)) {
		a, ok := pairOf(y, 0)
		if !ok {
			continue
		}
		powers := a.powers()
		first := multiple(&powers, order)
		l := []pair{zero}
		for len(l) < 8 {
			l = append(l, l[len(l)-1].sum(first))
		}
		if !l[4].same(zero) {
			return l
		}
	}
}

// some are random points, the same ones each time.
func some(count int) []pair {
	source := rand.New(rand.NewSource(7))
	var l []pair
	for len(l) < count {
		if a, ok := pairOf(new(big.Int).Rand(source, p), uint(source.Intn(2))); ok {
			l = append(l, a)
		}
	}
	return l
}

// edges are the points of which the chapter speaks, those that few times are zero, and some that differ from another one in x or in y alone.
func edges() []pair {
	l := turns()
	for _, a := range append(some(2), base, base.sum(base)) {
		l = append(l, a, a.neg(), a.sum(l[4]), a.neg().sum(l[4]), a.sum(l[1]), a.sum(l[2]))
	}
	return l
}

// get is the point of a pair's bytes.
func get(t *testing.T, a pair) point.Point {
	t.Helper()
	row := a.bytes()
	q, e := point.Get(row[:])
	if e != api.OK {
		t.Fatalf("P7.1: Get of %x: error %d", row, e)
	}
	return q
}

// check holds a point against what it should be; by its sum with the base it is seen, too, that it is on the curve.
func check(t *testing.T, name string, got point.Point, want pair) {
	t.Helper()
	if got.Bytes() != want.bytes() {
		t.Fatalf("P7.1: %s: %x; want %x", name, got.Bytes(), want.bytes())
	}
	if got.Add(point.Base()).Bytes() != want.sum(base).bytes() {
		t.Fatalf("P7.1: %s: bytes %x, but with the base %x; want %x", name, want.bytes(), got.Add(point.Base()).Bytes(), want.sum(base).bytes())
	}
}

func TestZero(t *testing.T) {
	if got := point.Zero().Bytes(); got != [32]byte{1} {
		t.Errorf("P7.1: zero's bytes are %x", got)
	}
	check(t, "zero", point.Zero(), zero)
	check(t, "zero and zero", point.Zero().Add(point.Zero()), zero)
}

func TestBase(t *testing.T) {
	want := [32]byte(bytes.Repeat([]byte{0x66}, 32))
	want[0] = 0x58
	if got := point.Base().Bytes(); got != want {
		t.Errorf("P7.1: the base's bytes are %x", got)
	}
	x := decimal("15112221349535400772501151409588531511454012693041857206046113283949847762202")
	y := decimal("46316835694926478169428394003475163141307993866256225615783033603165251855960")
	if !base.same(pair{x, y}) || !base.fits() {
		t.Fatalf("%x, %x isn't the base of this test", base.x, base.y)
	}
	check(t, "the base", point.Base(), base)
}

func TestGetAndBytes(t *testing.T) {
	for _, a := range append(edges(), some(200)...) {
		if !a.fits() {
			t.Fatalf("%x, %x isn't a point of this test", a.x, a.y)
		}
		check(t, "Get", get(t, a), a)
	}
}

// checkGet holds what Get says of y and the bit against the curve's equation, and tells whether there is a point.
func checkGet(t *testing.T, y *big.Int, bit uint) bool {
	t.Helper()
	a, ok := pairOf(y, bit)
	if ok {
		check(t, "Get", get(t, a), a)
		return true
	}
	row := row32(new(big.Int).SetBit(y, 255, bit))
	if q, e := point.Get(row[:]); e != api.ErrPoint || q != (point.Point{}) {
		t.Errorf("P7.1, P0.2: Get of %x, which are no point's bytes: %x, error %d", row, q.Bytes(), e)
	}
	return false
}

func TestGetOfEveryKind(t *testing.T) {
	source := rand.New(rand.NewSource(70))
	var l []*big.Int
	for c := range int64(60) {
		l = append(l, big.NewInt(c), minus(p, big.NewInt(c+1)), new(big.Int).Rand(source, p))
	}
	for n := range uint(255) {
		l = append(l, beside(n, 0))
	}
	found, missed := 0, 0
	for _, y := range l {
		for bit := range uint(2) {
			if checkGet(t, y, bit) {
				found++
			} else {
				missed++
			}
		}
	}
	if found < 100 || missed < 100 {
		t.Errorf("%d points, and %d that are none: this tests too little", found, missed)
	}
}

// TestGetWithoutX holds the two y of which x is 0: with the bit they aren't a point's bytes.
func TestGetWithoutX(t *testing.T) {
	for _, y := range []*big.Int{big.NewInt(1), minus(p, big.NewInt(1))} {
		row := row32(y)
		q, e := point.Get(row[:])
		if e != api.OK || q.Bytes() != row || !q.Same(q.Neg()) {
			t.Errorf("P7.1: Get of %x: %x, error %d", row, q.Bytes(), e)
		}
		row[31] |= 128
		if q, e := point.Get(row[:]); e != api.ErrPoint || q != (point.Point{}) {
			t.Errorf("P7.1: Get of %x, of which x is 0, and the bit is set: error %d", row, e)
		}
	}
}

func TestGetTooHigh(t *testing.T) {
	points := 0
	for c := range int64(19) {
		for bit := range uint(2) {
			row := row32(new(big.Int).SetBit(plus(p, big.NewInt(c)), 255, bit))
			if q, e := point.Get(row[:]); e != api.ErrPoint || q != (point.Point{}) {
				t.Errorf("P7.1: Get of %x, of which y is p or above: error %d", row, e)
			}
			if _, ok := pairOf(big.NewInt(c), bit); ok {
				points++
			}
		}
	}
	if points == 0 {
		t.Error("none of these y less p has a point: this tests too little")
	}
}

func TestGetLength(t *testing.T) {
	for n := range 100 {
		want := api.ErrShort
		if n > 32 {
			want = api.ErrLong
		}
		// Of several errors the first one: that such bytes would be no point's, either, isn't told.
		for _, b := range [][]byte{bytes.Repeat([]byte{255}, n), append([]byte{1}, make([]byte, n)...)[:n], make([]byte, n)} {
			if q, e := point.Get(b); n != 32 && (e != want || q != (point.Point{})) {
				t.Errorf("P7.1, P0.2: Get of the %d bytes %x: error %d; want error %d", n, b, e, want)
			}
		}
	}
	if q, e := point.Get(make([]byte, 1<<20)); e != api.ErrLong || q != (point.Point{}) {
		t.Errorf("P7.1: Get of 2^20 bytes: error %d", e)
	}
}

func TestAdd(t *testing.T) {
	l := append(edges(), some(8)...)
	for _, a := range l {
		for _, b := range l {
			check(t, "the sum", get(t, a).Add(get(t, b)), a.sum(b))
		}
	}
}

// TestAddOnAndOn holds sums of sums, each of which has come about in another way.
func TestAddOnAndOn(t *testing.T) {
	last, now := base, some(1)[0]
	prev, q := get(t, last), get(t, now)
	for range 200 {
		last, now = now, now.sum(last.neg()).sum(now)
		prev, q = q, q.Add(prev.Neg()).Add(q)
		check(t, "the sum of sums", q, now)
	}
}

func TestNeg(t *testing.T) {
	for _, a := range append(edges(), some(20)...) {
		q := get(t, a)
		check(t, "Neg", q.Neg(), a.neg())
		check(t, "Neg of Neg", q.Neg().Neg(), a)
		check(t, "Neg of a sum", q.Add(q).Neg(), a.sum(a).neg())
	}
	check(t, "Neg of zero", point.Zero().Neg(), zero)
}

// counts are numbers of 32 bytes: few ones, those beside powers of two and multiples of the order, and random ones.
func counts() []*big.Int {
	source := rand.New(rand.NewSource(71))
	var l []*big.Int
	for c := range int64(40) {
		l = append(l, big.NewInt(c), beside(256, -1-c), new(big.Int).Rand(source, beside(256, 0)))
	}
	for k := range int64(16) {
		for c := int64(-1); c <= 1; c++ {
			l = append(l, plus(times(order, big.NewInt(k)), big.NewInt(c)))
		}
	}
	for n := uint(3); n < 256; n += 4 {
		l = append(l, beside(n, -1), beside(n, 0), beside(n+1, -1))
	}
	return slices.DeleteFunc(l, func(n *big.Int) bool { return n.Sign() < 0 || n.BitLen() > 256 })
}

func TestTimes(t *testing.T) {
	for _, a := range []pair{base, some(1)[0]} {
		powers := a.powers()
		for _, n := range counts() {
			if got, want := get(t, a).Times(row32(n)), multiple(&powers, n); got.Bytes() != want.bytes() {
				t.Fatalf("P7.1: the multiple of %x by %x: %x; want %x", a.bytes(), n, got.Bytes(), want.bytes())
			}
		}
	}
	for _, a := range edges() {
		powers := a.powers()
		for _, n := range counts()[:12] {
			check(t, "the multiple", get(t, a).Times(row32(n)), multiple(&powers, n))
		}
	}
}

// TestTimesEveryDigit holds each hexadecimal digit of a number, at each place.
func TestTimesEveryDigit(t *testing.T) {
	powers := base.powers()
	for place := range 64 {
		want := zero
		for digit := range 16 {
			var n [32]byte
			n[place/2] = byte(digit << (place % 2 * 4))
			if got := point.Base().Times(n); got.Bytes() != want.bytes() {
				t.Fatalf("P7.1: the base's multiple by %x: %x; want %x", n, got.Bytes(), want.bytes())
			}
			want = want.sum(powers[place*4])
		}
	}
}

// TestTimesOfKeys holds the library's public keys: they are the base's multiples.
func TestTimesOfKeys(t *testing.T) {
	for i := range 100 {
		seed := bytes.Repeat([]byte{byte(i)}, 32)
		own := sha512.Sum512(seed)
		own[0] &= 248
		own[31] = own[31]&63 | 64
		want := ed25519.NewKeyFromSeed(seed).Public().(ed25519.PublicKey)
		if got := point.Base().Times([32]byte(own[:32])).Bytes(); !bytes.Equal(got[:], want) {
			t.Errorf("P7.1: the public key of 32 bytes of %d: %x; want %x", i, got, want)
		}
	}
}

func TestSame(t *testing.T) {
	l := append(edges(), some(8)...)
	shift := get(t, some(9)[8])
	for _, a := range l {
		for _, b := range l {
			// However it came about, it is the same, or isn't.
			q := get(t, b)
			for i, r := range []point.Point{q, q.Add(shift).Add(shift.Neg()), q.Add(q).Add(q.Neg()), point.Zero().Add(q)} {
				if got, want := get(t, a).Same(r), a.same(b); got != want || r.Same(get(t, a)) != want {
					t.Fatalf("P7.1: whether %x and %x, come about in way %d, are the same: %v", a.bytes(), b.bytes(), i, got)
				}
			}
		}
	}
}

// TestSameByBoth holds that x alone, or y alone, isn't enough.
func TestSameByBoth(t *testing.T) {
	half := turns()[4]
	for _, a := range append(some(10), base) {
		other, below := a.neg(), a.neg().sum(half)
		if other.y.Cmp(a.y) != 0 || below.x.Cmp(a.x) != 0 {
			t.Fatalf("%x: these aren't the points of this test", a.bytes())
		}
		if get(t, a).Same(get(t, other)) || get(t, a).Same(get(t, below)) {
			t.Errorf("P7.1: %x is the same as with another x, or another y", a.bytes())
		}
	}
}

func TestSumsTurned(t *testing.T) {
	l := append(edges(), some(4)...)
	for i, a := range l {
		for k, b := range l {
			q, r := get(t, a), get(t, b)
			if !q.Add(r).Same(r.Add(q)) {
				t.Fatalf("P7.2: the sum of %x and %x may not be turned", a.bytes(), b.bytes())
			}
			s := get(t, l[(i*5+k*3)%len(l)])
			if !q.Add(r).Add(s).Same(q.Add(r.Add(s))) {
				t.Fatalf("P7.2: %x, %x and %x may not be put together in any order", q.Bytes(), r.Bytes(), s.Bytes())
			}
		}
	}
}

func TestZeroInSums(t *testing.T) {
	for _, a := range append(edges(), some(20)...) {
		q := get(t, a)
		if !q.Add(point.Zero()).Same(q) || !point.Zero().Add(q).Same(q) {
			t.Errorf("P7.2: %x and zero isn't itself", a.bytes())
		}
		if !q.Add(q.Neg()).Same(point.Zero()) || !q.Neg().Add(q).Same(point.Zero()) {
			t.Errorf("P7.2: %x and its Neg isn't zero", a.bytes())
		}
		if got := q.Add(q.Neg()).Bytes(); got != [32]byte{1} {
			t.Errorf("P7.2: %x and its Neg has the bytes %x", a.bytes(), got)
		}
	}
}

func TestMultiplesOfSums(t *testing.T) {
	source := rand.New(rand.NewSource(72))
	for _, a := range append(edges(), some(10)...) {
		q := get(t, a)
		for range 5 {
			n, m := new(big.Int).Rand(source, beside(255, 0)), new(big.Int).Rand(source, beside(255, 0))
			if !q.Times(row32(plus(n, m))).Same(q.Times(row32(n)).Add(q.Times(row32(m)))) {
				t.Fatalf("P7.2: of %x the multiple by the sum of %x and %x isn't the sum of the multiples", a.bytes(), n, m)
			}
			r := q.Add(point.Base())
			if !r.Times(row32(n)).Same(q.Times(row32(n)).Add(point.Base().Times(row32(n)))) {
				t.Fatalf("P7.2: the multiple by %x of the sum of %x and the base isn't the sum of the multiples", n, a.bytes())
			}
		}
	}
}

// TestOrders holds how many of a point are zero: of the base the order, of eight points eight, and no fewer.
func TestOrders(t *testing.T) {
	if !point.Base().Times(row32(order)).Same(point.Zero()) {
		t.Error("P7.2: the base's multiple by the order isn't zero")
	}
	if point.Base().Times(row32(minus(order, big.NewInt(1)))).Same(point.Zero()) {
		t.Error("P7.2: a smaller multiple of the base is zero")
	}
	for i, a := range turns() {
		for n := range 9 {
			got := get(t, a).Times([32]byte{byte(n)}).Same(point.Zero())
			if want := i*n%8 == 0; got != want {
				t.Errorf("P7.2: whether %d times %x is zero: %v", n, a.bytes(), got)
			}
		}
	}
}

func TestArguments(t *testing.T) {
	for _, n := range []int{0, 31, 32, 33} {
		whole := bytes.Repeat([]byte{0x66}, 64)
		whole[0] = 0x58
		kept := slices.Clone(whole)
		q, e := point.Get(whole[:n])
		if !bytes.Equal(whole, kept) {
			t.Errorf("P0.3: Get changes the %d bytes, or the room behind them: %x", n, whole)
		}
		clear(whole)
		if r, f := point.Get(kept[:n]); r != q || f != e || n == 32 && [32]byte(kept) != q.Bytes() {
			t.Errorf("P0.3: Get keeps the %d bytes", n)
		}
	}
	// The bit of x is cleared ahead of reading y: not in what is handed in.
	odd := get(t, base).Neg().Bytes()
	kept := odd
	if _, e := point.Get(odd[:]); e != api.OK || odd != kept {
		t.Errorf("P0.3: Get makes %x of %x, error %d", odd, kept, e)
	}
}

func TestAnswersAreNew(t *testing.T) {
	q, r := point.Base(), get(t, some(1)[0])
	first, second := q, r
	n := row32(order)
	q.Add(r)
	q.Neg()
	q.Times(n)
	q.Same(r)
	if q != first || r != second || n != row32(order) {
		t.Error("P0.3: a point, or a number, with which was reckoned is another one")
	}
	b := q.Bytes()
	clear(b[:])
	if q.Bytes() != base.bytes() || !point.Base().Same(q) {
		t.Error("P0.3: who writes into the bytes writes into the point")
	}
}

func TestNilIsEmpty(t *testing.T) {
	for _, b := range [][]byte{nil, {}} {
		if q, e := point.Get(b); q != (point.Point{}) || e != api.ErrShort {
			t.Errorf("P0.4: Get of no bytes: error %d", e)
		}
	}
}

func TestAgain(t *testing.T) {
	l := some(20)
	ask := func() (out []point.Point) {
		out = append(out, point.Zero(), point.Base())
		for _, a := range l {
			q := get(t, a)
			out = append(out, q, q.Neg(), q.Add(get(t, l[0])), q.Times(row32(a.x)))
		}
		return out
	}
	first := ask()
	for range 3 {
		if !slices.Equal(ask(), first) {
			t.Fatal("P0.5: the same calls answer otherwise")
		}
	}
}
