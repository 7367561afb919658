package scalar_test

import (
	"bytes"
	"crypto/ed25519"
	"crypto/sha512"
	"math/big"
	"math/rand"
	"slices"
	"testing"

	"greffier/scalar"
)

// power is 2 to the power of n, and c.
func power(n uint, c int64) *big.Int {
	return new(big.Int).Add(new(big.Int).Lsh(big.NewInt(1), n), big.NewInt(c))
}

// order is L, as the chapter tells it.
var order = func() *big.Int {
	n, _ := new(big.Int).SetString("27742317777372353535851937790883648493", 10)
	return n.Add(n, power(252, 0))
}()

// sum, less and times are those of two numbers.
func sum(n, m *big.Int) *big.Int   { return new(big.Int).Add(n, m) }
func less(n, m *big.Int) *big.Int  { return new(big.Int).Sub(n, m) }
func times(n, m *big.Int) *big.Int { return new(big.Int).Mul(n, m) }

// rest is a number's rest, divided by L.
func rest(n *big.Int) *big.Int { return new(big.Int).Mod(n, order) }

// row are a number's bytes, so many, the lowest first.
func row(n *big.Int, size int) []byte {
	b := n.FillBytes(make([]byte, size))
	slices.Reverse(b)
	return b
}

// row32 are a number's 32 bytes.
func row32(n *big.Int) [32]byte { return [32]byte(row(n, 32)) }

// number is the number of bytes, the lowest first.
func number(b []byte) *big.Int {
	b = slices.Clone(b)
	slices.Reverse(b)
	return new(big.Int).SetBytes(b)
}

// fitting are those of some numbers that go into 32 bytes.
func fitting(l []*big.Int) []*big.Int {
	return slices.DeleteFunc(l, func(n *big.Int) bool { return n.Sign() < 0 || n.BitLen() > 256 })
}

// edges are numbers of 32 bytes at which limbs, or L, are gone beyond.
func edges() []*big.Int {
	var l []*big.Int
	for c := range int64(3) {
		l = append(l, big.NewInt(c), power(256, -1-c))
		for k := range int64(16) {
			n := times(order, big.NewInt(k))
			l = append(l, sum(n, big.NewInt(c)), less(n, big.NewInt(c)))
		}
	}
	half := new(big.Int).Rsh(order, 1)
	l = append(l, half, sum(half, big.NewInt(1)))
	for _, n := range []uint{8, 63, 64, 65, 124, 125, 127, 128, 129, 191, 192, 193, 251, 252, 253, 254, 255} {
		for c := int64(-1); c <= 1; c++ {
			l = append(l, power(n, c), sum(order, power(n, c)), less(order, power(n, c)))
		}
	}
	return fitting(l)
}

// some are random numbers of 32 bytes, the same ones each time; every other one has long rows of ones or zeros.
func some(count int) []*big.Int {
	source := rand.New(rand.NewSource(6))
	var l []*big.Int
	for i := range count {
		n := new(big.Int).Rand(source, power(256, 0))
		if i%2 == 1 {
			n.SetBit(n, source.Intn(256), 1)
			n = less(new(big.Int).Lsh(n, uint(source.Intn(256))), big.NewInt(int64(source.Intn(2))))
			n.And(n, power(256, -1))
		}
		l = append(l, n)
	}
	return fitting(l)
}

func TestMay(t *testing.T) {
	l := append(edges(), some(300)...)
	for n := range uint(256) {
		l = append(l, power(n, 0), power(n, -1), less(power(256, -1), power(n, 0)))
		// One bit more, or less, than L has.
		l = append(l, new(big.Int).Xor(order, power(n, 0)))
	}
	for _, n := range l {
		if got, want := scalar.May(row(n, 32)), n.Cmp(order) < 0; got != want {
			t.Errorf("P6.1: May of %x: %v; want %v", n, got, want)
		}
	}
	for _, c := range []struct {
		n    *big.Int
		want bool
	}{{big.NewInt(0), true}, {less(order, big.NewInt(1)), true}, {order, false}, {sum(order, big.NewInt(1)), false}, {power(256, -1), false}} {
		if got := scalar.May(row(c.n, 32)); got != c.want {
			t.Errorf("P6.1: May of %x: %v; want %v", c.n, got, c.want)
		}
	}
}

// TestMayOfByteBeside holds that each byte counts: a number that is L but for one byte is below or above by that byte.
func TestMayOfByteBeside(t *testing.T) {
	for i := range 32 {
		b := row(order, 32)
		here := b[i]
		for digit := range 256 {
			b[i] = byte(digit)
			if got, want := scalar.May(b), b[i] < here; got != want {
				t.Errorf("P6.1: May of L with the byte %d at %d: %v; want %v", digit, i, got, want)
			}
		}
	}
}

func TestMayLength(t *testing.T) {
	for n := range 200 {
		for _, digit := range []byte{0, 1, 255} {
			if b := bytes.Repeat([]byte{digit}, n); n != 32 && scalar.May(b) {
				t.Errorf("P6.1: May of %d bytes of %d", n, digit)
			}
		}
		if b := append([]byte{1}, make([]byte, n)...); scalar.May(b) != (n == 31) {
			t.Errorf("P6.1: May of 1 in %d bytes: %v", n+1, scalar.May(b))
		}
	}
	if scalar.May(make([]byte, 1<<16)) {
		t.Error("P6.1: May of 2^16 bytes")
	}
}

// checkReduce holds a number's rest against the library's.
func checkReduce(t *testing.T, b []byte) {
	t.Helper()
	got := scalar.Reduce(b)
	if want := row32(rest(number(b))); got != want {
		t.Errorf("P6.1: Reduce of %d bytes, %.80x: %x; want %x", len(b), b, got, want)
	}
	if !scalar.May(got[:]) {
		t.Errorf("P6.1: Reduce of %d bytes, %.80x: %x, which is no scalar", len(b), b, got)
	}
}

func TestReduce(t *testing.T) {
	for _, n := range append(edges(), some(300)...) {
		for _, size := range []int{32, 33, 64, 100} {
			checkReduce(t, row(n, size))
		}
		// The highest bytes, too, may be those of an edge.
		for _, size := range []int{1, 8, 31, 32, 33} {
			checkReduce(t, append(make([]byte, size), row(n, 32)...))
			checkReduce(t, append(bytes.Repeat([]byte{255}, size), row(n, 32)...))
		}
	}
}

func TestReduceEveryLength(t *testing.T) {
	source := rand.New(rand.NewSource(60))
	for n := range 300 {
		b := make([]byte, n)
		checkReduce(t, b)
		checkReduce(t, bytes.Repeat([]byte{255}, n))
		for range 3 {
			source.Read(b)
			checkReduce(t, b)
		}
	}
	long := make([]byte, 1<<16+5)
	source.Read(long)
	checkReduce(t, long)
	checkReduce(t, bytes.Repeat([]byte{255}, 1<<16))
}

func TestReduceEveryBit(t *testing.T) {
	for bit := range 8 * 130 {
		b := make([]byte, 130)
		b[bit/8] = 1 << (bit % 8)
		checkReduce(t, b)
		checkReduce(t, b[:bit/8+1])
	}
}

// TestReduceBesideMultiples holds that of a great multiple of L, and somewhat more or less, just that is left.
func TestReduceBesideMultiples(t *testing.T) {
	source := rand.New(rand.NewSource(61))
	for _, bits := range []uint{0, 1, 3, 64, 252, 253, 256, 260, 1000} {
		for range 20 {
			// At least one, so that somewhat less isn't below 0.
			n := times(order, sum(new(big.Int).Rand(source, power(bits, 0)), big.NewInt(1)))
			for c := int64(-3); c <= 3; c++ {
				got := scalar.Reduce(row(sum(n, big.NewInt(c)), 170))
				want := big.NewInt(c)
				if c < 0 {
					want = sum(order, want)
				}
				if number(got[:]).Cmp(want) != 0 {
					t.Errorf("P6.1: Reduce of %x and %d: %x; want %x", n, c, number(got[:]), want)
				}
			}
		}
	}
}

func TestReduceOfFew(t *testing.T) {
	for _, c := range []struct {
		b    []byte
		want *big.Int
	}{
		{nil, big.NewInt(0)},
		{[]byte{7}, big.NewInt(7)},
		{[]byte{255}, big.NewInt(255)},
		{[]byte{1, 2}, big.NewInt(513)},
		{[]byte{0, 0, 0, 3}, big.NewInt(3 << 24)},
		{row(order, 32), big.NewInt(0)},
		{row(order, 33), big.NewInt(0)},
		{row(less(order, big.NewInt(1)), 32), less(order, big.NewInt(1))},
		{row(sum(order, big.NewInt(1)), 32), big.NewInt(1)},
		{row(power(253, 0), 32), less(power(253, 0), order)},
	} {
		if got := scalar.Reduce(c.b); got != row32(c.want) {
			t.Errorf("P6.1: Reduce of %x: %x; want %x", c.b, number(got[:]), c.want)
		}
	}
}

// TestReduceOfScalars holds that scalars are their own rests.
func TestReduceOfScalars(t *testing.T) {
	for _, n := range append(edges(), some(100)...) {
		if got := scalar.Reduce(row(n, 32)); (got == row32(n)) != (n.Cmp(order) < 0) {
			t.Errorf("P6.1: Reduce of %x: %x", n, number(got[:]))
		}
	}
}

// checkMulAdd holds the rest of a times b, and c, against the library's.
func checkMulAdd(t *testing.T, a, b, c *big.Int) {
	t.Helper()
	got := scalar.MulAdd(row32(a), row32(b), row32(c))
	if want := rest(sum(times(a, b), c)); got != row32(want) {
		t.Fatalf("P6.1: MulAdd of %x, %x and %x: %x; want %x", a, b, c, number(got[:]), want)
	}
}

func TestMulAdd(t *testing.T) {
	l := append(edges(), some(40)...)
	third := some(len(l) + 3)
	for i, a := range l {
		for k, b := range l {
			checkMulAdd(t, a, b, l[(i*7+k*3)%len(l)])
			checkMulAdd(t, a, b, third[(i+k)%len(third)])
		}
	}
}

func TestMulAddOfFew(t *testing.T) {
	zero, one, last := big.NewInt(0), big.NewInt(1), less(order, big.NewInt(1))
	for _, n := range append(edges(), some(100)...) {
		for _, c := range []struct{ a, b, c, want *big.Int }{
			{zero, zero, n, n},
			{n, zero, zero, zero},
			{zero, n, zero, zero},
			{n, one, zero, n},
			{one, n, zero, n},
			{one, one, n, sum(n, one)},
			{n, order, zero, zero},
			{order, n, one, one},
			{n, last, n, zero},
			{last, n, n, zero},
			{one, n, order, n},
		} {
			if got := scalar.MulAdd(row32(c.a), row32(c.b), row32(c.c)); got != row32(rest(c.want)) {
				t.Errorf("P6.1: MulAdd of %x, %x and %x: %x; want %x", c.a, c.b, c.c, number(got[:]), rest(c.want))
			}
		}
	}
	checkMulAdd(t, big.NewInt(3), big.NewInt(5), big.NewInt(7))
	checkMulAdd(t, power(256, -1), power(256, -1), power(256, -1))
}

// TestMulAddOntoEdges holds answers just beside where something goes over, in whatever way they come about.
func TestMulAddOntoEdges(t *testing.T) {
	pairs := some(20)
	for _, want := range edges() {
		for i, a := range pairs[1:] {
			b := pairs[i]
			c := rest(less(want, times(a, b)))
			for c.BitLen() <= 256 {
				checkMulAdd(t, a, b, c)
				c = sum(c, times(order, big.NewInt(5)))
			}
		}
	}
}

// TestMulAddOfSignatures holds the last halves of signatures, as the library makes them.
func TestMulAddOfSignatures(t *testing.T) {
	for i := range 50 {
		seed := bytes.Repeat([]byte{byte(i)}, 32)
		text := bytes.Repeat([]byte{byte(i + 1)}, i)
		private := ed25519.NewKeyFromSeed(seed)
		sign := ed25519.Sign(private, text)
		own := sha512.Sum512(seed)
		own[0] &= 248
		own[31] = own[31]&63 | 64
		first := sha512.Sum512(slices.Concat(own[32:], text))
		second := sha512.Sum512(slices.Concat(sign[:32], private[32:], text))
		got := scalar.MulAdd(scalar.Reduce(second[:]), [32]byte(own[:32]), scalar.Reduce(first[:]))
		if !bytes.Equal(got[:], sign[32:]) {
			t.Errorf("P6.1: MulAdd of signature %d: %x; want %x", i, got, sign[32:])
		}
		if !scalar.May(got[:]) {
			t.Errorf("P6.1: May of signature %d's last half, %x", i, got)
		}
	}
}

func TestArguments(t *testing.T) {
	for _, n := range []int{0, 1, 31, 32, 33, 64, 100} {
		whole := bytes.Repeat([]byte{15}, 128)
		got, may := scalar.Reduce(whole[:n]), scalar.May(whole[:n])
		if !bytes.Equal(whole, bytes.Repeat([]byte{15}, 128)) {
			t.Errorf("P0.3: the %d bytes, or the room behind them, are changed: %d", n, whole)
		}
		clear(whole)
		same := bytes.Repeat([]byte{15}, n)
		if scalar.Reduce(same) != got || scalar.May(same) != may {
			t.Errorf("P0.3: the %d bytes are kept", n)
		}
	}
	a, b, c := row32(power(255, 1)), row32(power(254, 3)), row32(power(253, 5))
	scalar.MulAdd(a, b, c)
	if a != row32(power(255, 1)) || b != row32(power(254, 3)) || c != row32(power(253, 5)) {
		t.Error("P0.3: MulAdd changes its numbers")
	}
}

func TestAnswersAreNew(t *testing.T) {
	n := row32(power(255, 9))
	for i, ask := range []func() [32]byte{
		func() [32]byte { return scalar.Reduce(n[:]) },
		func() [32]byte { return scalar.MulAdd(n, n, n) },
	} {
		first := ask()
		kept := first
		clear(first[:])
		if ask() != kept || n != row32(power(255, 9)) {
			t.Errorf("P0.3: who writes into answer %d changes another one, or an argument", i)
		}
	}
}

func TestNilIsEmpty(t *testing.T) {
	for _, b := range [][]byte{nil, {}} {
		if got := scalar.Reduce(b); got != [32]byte{} || scalar.May(b) {
			t.Errorf("P0.4: of no bytes: Reduce %x, May %v", got, scalar.May(b))
		}
	}
}

func TestAgain(t *testing.T) {
	l := some(30)
	ask := func() (out [][32]byte) {
		for i, n := range l {
			b := row32(n)
			out = append(out, scalar.Reduce(b[:]), scalar.MulAdd(b, row32(l[0]), row32(l[len(l)-1-i])))
		}
		return out
	}
	first := ask()
	for range 3 {
		if !slices.Equal(ask(), first) {
			t.Fatal("P0.5: the same calls answer otherwise")
		}
	}
}
