package sha_test

import (
	"bytes"
	"crypto/sha512"
	"encoding/hex"
	"hash"
	"math/rand"
	"slices"
	"strings"
	"testing"

	"greffier/sha"
)

// sample are so many bytes, the same ones each time.
func sample(n int) []byte {
	b := make([]byte, n)
	rand.New(rand.NewSource(int64(n))).Read(b)
	return b
}

// edges are lengths near those at which another block is begun, or filled up.
func edges() []int {
	l := []int{0, 1, 2}
	for _, n := range []int{64, 111, 112, 127, 128, 239, 240, 255, 256, 367, 368, 384, 1024} {
		l = append(l, n-1, n, n+1)
	}
	slices.Sort(l)
	return slices.Compact(l)
}

// known are sums that were told elsewhere (FIPS 180-4's examples among them).
var known = []struct{ text, sum string }{
	{"", "cf83e1357eefb8bdf1542850d66d8007d620e4050b5715dc83f4a921d36ce9ce" +
		"47d0d13c5d85f2b0ff8318d2877eec2f63b931bd47417a81a538327af927da3e"},
	{"abc", "ddaf35a193617abacc417349ae20413112e6fa4e89a97ea20a9eeee64b55d39a" +
		"2192992a274fc1a836ba3c23a3feebbd454d4423643ce80e2a9ac94fa54ca49f"},
	{"abcdefghbcdefghicdefghijdefghijkefghijklfghijklmghijklmnhijklmnoijklmnopjklmnopqklmnopqrlmnopqrsmnopqrstnopqrstu",
		"8e959b75dae313da8cf4f72814fc143f8f7779c6eb9f7fa17299aeadb6889018" +
			"501d289e4900f7e4331b99dec4b5433ac7d329eeb6dd26545e96e55b874be909"},
	{strings.Repeat("a", 1000000), "e718483d0ce769644e2e42c7bc15b4638e1f98b13b2044285632a803afa973eb" +
		"de0ff244877ea60a4cb0432ce577c31beb009c5c2c49aa2e4eadb217ad8cc09b"},
}

func TestKnownSums(t *testing.T) {
	for _, k := range known {
		want, err := hex.DecodeString(k.sum)
		if err != nil {
			t.Fatal(err)
		}
		if got := sha.Of([]byte(k.text)); !bytes.Equal(got[:], want) {
			t.Errorf("P4.1: Of(%.20q ..) = %x; want %x", k.text, got, want)
		}
		h := sha.New()
		h.Write([]byte(k.text))
		if got := h.Sum(); !bytes.Equal(got[:], want) {
			t.Errorf("P4.1: the sum of %.20q .. is %x; want %x", k.text, got, want)
		}
	}
}

func TestEveryLength(t *testing.T) {
	for n := range 600 {
		for _, b := range [][]byte{sample(n), make([]byte, n), bytes.Repeat([]byte{255}, n)} {
			h := sha.New()
			h.Write(b)
			if want := sha512.Sum512(b); sha.Of(b) != want || h.Sum() != want {
				t.Errorf("P4.1: of %d bytes: Of %x, Sum %x; want %x", n, sha.Of(b), h.Sum(), want)
			}
		}
	}
}

// TestEveryBit holds that each bit of each byte counts.
func TestEveryBit(t *testing.T) {
	for _, n := range []int{1, 64, 111, 112, 128, 129} {
		b := sample(n)
		for bit := range 8 * n {
			b[bit/8] ^= 1 << (bit % 8)
			if sha.Of(b) != sha512.Sum512(b) {
				t.Errorf("P4.1: of %d bytes, with another bit %d", n, bit)
			}
			b[bit/8] ^= 1 << (bit % 8)
		}
	}
}

// TestLongRow holds that the count of bits goes beyond 32 of its own.
func TestLongRow(t *testing.T) {
	h, want := sha.New(), sha512.New()
	b := sample(1 << 20)
	for range 1<<29>>20 + 1 {
		h.Write(b)
		want.Write(b)
	}
	if got := h.Sum(); !bytes.Equal(got[:], want.Sum(nil)) {
		t.Errorf("P4.1: of 2^29 bytes and more: %x; want %x", got, want.Sum(nil))
	}
}

func TestCutInTwo(t *testing.T) {
	for _, n := range edges() {
		b := sample(n)
		want := sha512.Sum512(b)
		for i := range n + 1 {
			h := sha.New()
			h.Write(b[:i])
			h.Write(b[i:])
			if h.Sum() != want {
				t.Errorf("P4.2: %d and then %d bytes are written", i, n-i)
			}
			if sha.Of(b[:i], b[i:]) != want {
				t.Errorf("P4.2: Of rows of %d and of %d bytes", i, n-i)
			}
		}
	}
}

func TestManyPieces(t *testing.T) {
	for _, n := range edges() {
		b := sample(n)
		want := sha512.Sum512(b)
		for _, size := range []int{1, 3, 64, 127, 128, 129, 256} {
			pieces := slices.Collect(slices.Chunk(b, size))
			// Rows of no bytes between the others play no part.
			pieces = append(pieces, nil, []byte{})
			h := sha.New()
			for _, piece := range pieces {
				h.Write(piece)
				h.Write(nil)
			}
			if h.Sum() != want || sha.Of(pieces...) != want {
				t.Errorf("P4.2: %d bytes, so many a piece: %d", n, size)
			}
		}
	}
}

// TestRowsOfCalls goes through rows of calls, of some hashes at a time.
func TestRowsOfCalls(t *testing.T) {
	source := rand.New(rand.NewSource(4))
	for range 100 {
		hashes := []*sha.Hash{sha.New(), sha.New(), sha.New()}
		wanted := []hash.Hash{sha512.New(), sha512.New(), sha512.New()}
		for range 40 {
			i := source.Intn(len(hashes))
			b := sample(source.Intn(300))
			if source.Intn(3) > 0 {
				hashes[i].Write(b)
				wanted[i].Write(b)
			}
			if got := hashes[i].Sum(); !bytes.Equal(got[:], wanted[i].Sum(nil)) {
				t.Fatalf("P4.1: a hash's sum is %x; want %x", got, wanted[i].Sum(nil))
			}
		}
	}
}

// TestSumGoesOn holds that a sum of any length plays no part in what is written behind.
func TestSumGoesOn(t *testing.T) {
	h := sha.New()
	b := sample(300)
	for i := range b {
		want := sha512.Sum512(b[:i])
		if h.Sum() != want || h.Sum() != want {
			t.Errorf("P4.1: the sum of %d bytes, each of which was summed", i)
		}
		h.Write(b[i : i+1])
	}
}

func TestNilHash(t *testing.T) {
	var h *sha.Hash
	nothing := sha512.Sum512(nil)
	if h.Sum() != nothing {
		t.Errorf("P4.1: a nil hash's sum is %x", h.Sum())
	}
	h.Write(nil)
	h.Write([]byte("abc"))
	if h.Sum() != nothing {
		t.Errorf("P4.1: the sum of a nil hash that was written to is %x", h.Sum())
	}
	if sha.New().Sum() != nothing {
		t.Errorf("P4.1: a new hash's sum is %x", sha.New().Sum())
	}
}

func TestNilIsEmpty(t *testing.T) {
	nothing := sha512.Sum512(nil)
	for _, rows := range [][][]byte{nil, {}, {nil}, {{}}, {nil, {}, nil}} {
		if got := sha.Of(rows...); got != nothing {
			t.Errorf("P0.4: Of(%v) = %x; want the sum of nothing", rows, got)
		}
	}
	if sha.Of() != nothing {
		t.Errorf("P0.4: Of() = %x; want the sum of nothing", sha.Of())
	}
	h, other := sha.New(), sha.New()
	h.Write(nil)
	other.Write([]byte{})
	if h.Sum() != nothing || other.Sum() != nothing {
		t.Errorf("P0.4: nil and empty rows are summed %x and %x", h.Sum(), other.Sum())
	}
}

func TestArguments(t *testing.T) {
	for _, n := range edges() {
		room := sample(n + 200)
		b := room[:n]
		want := sha512.Sum512(b)
		rows := [][]byte{b, []byte("behind")}
		h := sha.New()
		h.Write(b)
		of := sha.Of(rows[:1]...)
		h.Sum()
		if !bytes.Equal(room, sample(n+200)) || string(rows[1]) != "behind" {
			t.Errorf("P0.3: a row of %d bytes, or the room behind it, was changed", n)
		}
		clear(room)
		if h.Sum() != want || of != want {
			t.Errorf("P0.3: a row of %d bytes was kept", n)
		}
	}
}

func TestAnswersAreNew(t *testing.T) {
	b := sample(200)
	want := sha512.Sum512(b)
	h, other := sha.New(), sha.New()
	h.Write(b)
	first := h.Sum()
	clear(first[:])
	other.Write([]byte("other"))
	other.Sum()
	if h.Sum() != want {
		t.Errorf("P0.3: after a sum was changed, and another hash written to, it is %x; want %x", h.Sum(), want)
	}
}

func TestAgain(t *testing.T) {
	for _, n := range edges() {
		b := sample(n)
		first := sha.Of(b)
		sha.Of([]byte("between"))
		h := sha.New()
		h.Write(b)
		sum := h.Sum()
		sha.New().Write([]byte("between"))
		if sha.Of(b) != first || h.Sum() != first || sum != first {
			t.Errorf("P0.5: the sums of the same %d bytes are others", n)
		}
	}
}
