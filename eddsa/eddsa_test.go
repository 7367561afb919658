package eddsa_test

import (
	"bytes"
	"crypto/ed25519"
	"crypto/sha512"
	"encoding/hex"
	"math/big"
	"math/rand"
	"slices"
	"testing"

	"greffier/api"
	"greffier/eddsa"
	"greffier/point"
)

// order is L, in the library's numbers.
var order = func() *big.Int {
	n, _ := new(big.Int).SetString("27742317777372353535851937790883648493", 10)
	return n.Add(n, new(big.Int).Lsh(big.NewInt(1), 252))
}()

// numberOf is the number whose bytes these are, the lowest first.
func numberOf(b []byte) *big.Int {
	b = slices.Clone(b)
	slices.Reverse(b)
	return new(big.Int).SetBytes(b)
}

// row32 are a number's 32 bytes, the lowest first.
func row32(n *big.Int) (row [32]byte) {
	n.FillBytes(row[:])
	slices.Reverse(row[:])
	return row
}

// sumOf is the number of the sum of rows, by the library.
func sumOf(rows ...[]byte) *big.Int {
	sum := sha512.Sum512(slices.Concat(rows...))
	return numberOf(sum[:])
}

// rest is a number's rest, divided by L.
func rest(n *big.Int) *big.Int { return new(big.Int).Mod(n, order) }

// sample are so many bytes, the same ones each time.
func sample(n int, seed int64) []byte {
	b := make([]byte, n)
	rand.New(rand.NewSource(seed)).Read(b)
	return b
}

// seeds are those of one byte, with one bit, and random ones.
func seeds() (l [][]byte) {
	for _, b := range []byte{0, 1, 127, 128, 255} {
		l = append(l, bytes.Repeat([]byte{b}, 32))
	}
	for i := range 32 {
		b := make([]byte, 32)
		b[i] = 1 << (i % 8)
		l = append(l, b)
	}
	for i := range int64(60) {
		l = append(l, sample(32, 800+i))
	}
	return l
}

// public is the public key of a seed, by the library.
func public(seed []byte) []byte {
	return ed25519.NewKeyFromSeed(seed).Public().(ed25519.PublicKey)
}

// sign is a seed's signature, by the library.
func sign(seed, text []byte) []byte { return ed25519.Sign(ed25519.NewKeyFromSeed(seed), text) }

// secretNumber is a seed's, by the chapter's words.
func secretNumber(seed []byte) *big.Int {
	sum := sha512.Sum512(seed)
	sum[0] &= 0b11111000
	sum[31] = sum[31]&0b01111111 | 0b01000000
	return numberOf(sum[:32])
}

// known are seeds, public keys, texts and signatures that were told elsewhere (RFC 8032, section 7.1).
var known = []struct{ seed, public, text, sign string }{
	{"9d61b19deffd5a60ba844af492ec2cc44449c5697b326919703bac031cae7f60",
		"d75a980182b10ab7d54bfed3c964073a0ee172f3daa62325af021a68f707511a", "",
		"e5564300c360ac729086e2cc806e828a84877f1eb8e5d974d873e065224901555fb8821590a33bacc61e39701cf9b46bd25bf5f0595bbe24655141438e7a100b"},
	{"4ccd089b28ff96da9db6c346ec114e0f5b8a319f35aba624da8cf6ed4fb8a6fb",
		"3d4017c3e843895a92b70aa74d1b7ebc9c982ccf2ec4968cc0cd55f12af4660c", "72",
		"92a009a9f0d4cab8720e820b5f642540a2b27b5416503f8fb3762223ebdb69da085ac1e43e15996e458f3613d0f11d8c387b2eaeb4302aeeb00d291612bb0c00"},
	{"c5aa8df43f9f837bedb7442f31dcb7b166d38535076f094b85ce3a2e0b4458f7",
		"fc51cd8e6218a1a38da47ed00230f0580816ed13ba3303ac5deb911548908025", "af82",
		"6291d657deec24024827e69c3abe01a30ce548a284743a445e3680d7db5ac3ac18ff9b538d16f290ae67f760984dc6594a7c15e9716ed28dc027beceea1ec40a"},
}

// digits are the bytes of digits.
func digits(t *testing.T, s string) []byte {
	t.Helper()
	b, err := hex.DecodeString(s)
	if err != nil {
		t.Fatal(err)
	}
	return b
}

func TestKnown(t *testing.T) {
	for i, k := range known {
		seed, text, want := digits(t, k.seed), digits(t, k.text), digits(t, k.sign)
		if p, e := eddsa.Public(seed); e != api.OK || !bytes.Equal(p[:], digits(t, k.public)) {
			t.Errorf("P8.1: public key %d is %x, error %d", i, p, e)
		}
		if s, e := eddsa.Sign(seed, text); e != api.OK || !bytes.Equal(s[:], want) {
			t.Errorf("P8.1: signature %d is %x, error %d", i, s, e)
		}
		if !eddsa.Verify(digits(t, k.public), text, want) {
			t.Errorf("P8.1: signature %d isn't right", i)
		}
	}
}

func TestPublic(t *testing.T) {
	if p, e := eddsa.Public(make([]byte, 32)); e != api.OK || !bytes.HasPrefix(p[:], []byte{0x3b, 0x6a, 0x27, 0xbc}) {
		t.Errorf("P8.1: the public key of 32 zeros: %x, error %d", p, e)
	}
	for _, seed := range seeds() {
		p, e := eddsa.Public(seed)
		if e != api.OK || !bytes.Equal(p[:], public(seed)) {
			t.Errorf("P8.1: the public key of %x: %x, error %d; want %x", seed, p, e, public(seed))
		}
		if want := point.Base().Times(row32(secretNumber(seed))).Bytes(); p != want {
			t.Errorf("P8.1: the public key of %x: %x; by the chapter's words %x", seed, p, want)
		}
	}
}

// TestSeedsOfEveryKind holds that each bit that is cleared or set in a secret number was there and wasn't, in what this tests.
func TestSeedsOfEveryKind(t *testing.T) {
	ones, zeros := make([]byte, 32), make([]byte, 32)
	for _, seed := range seeds() {
		for i, b := range sha512.Sum512(seed) {
			if i < 32 {
				ones[i] |= b
				zeros[i] |= ^b
			}
		}
	}
	if all := bytes.Repeat([]byte{255}, 32); !bytes.Equal(ones, all) || !bytes.Equal(zeros, all) {
		t.Errorf("the seeds' sums have ones in %x and zeros in %x alone: this tests too little", ones, zeros)
	}
}

func TestSign(t *testing.T) {
	for i, seed := range seeds() {
		text := sample(3*i, int64(i))
		s, e := eddsa.Sign(seed, text)
		if want := sign(seed, text); e != api.OK || !bytes.Equal(s[:], want) {
			t.Errorf("P8.1: the signature by %x of %d bytes: %x, error %d; want %x", seed, len(text), s, e, want)
		}
	}
}

// TestEveryLength holds texts of each length: those at which the sum of prefix and text, or of keys and text, has another block among them.
func TestEveryLength(t *testing.T) {
	seed := sample(32, 81)
	lengths := []int{1000, 4096, 1 << 16, 1 << 20}
	for n := range 270 {
		lengths = append(lengths, n)
	}
	for _, n := range lengths {
		text := sample(n, int64(n))
		s, e := eddsa.Sign(seed, text)
		if want := sign(seed, text); e != api.OK || !bytes.Equal(s[:], want) {
			t.Errorf("P8.1: the signature of %d bytes: %x, error %d; want %x", n, s, e, want)
		}
		if !eddsa.Verify(public(seed), text, s[:]) {
			t.Errorf("P8.2: who signs %d bytes isn't verified", n)
		}
	}
}

func TestSeedLength(t *testing.T) {
	for n := range 100 {
		if n == 32 {
			continue
		}
		if p, e := eddsa.Public(sample(n, 1)); e != api.ErrArg || p != [32]byte{} {
			t.Errorf("P8.1, P0.2: the public key of %d bytes: %x, error %d", n, p, e)
		}
		for _, text := range [][]byte{nil, []byte("abc"), make([]byte, 1000)} {
			if s, e := eddsa.Sign(sample(n, 1), text); e != api.ErrArg || s != [64]byte{} {
				t.Errorf("P8.1, P0.2: the signature by %d bytes: %x, error %d", n, s, e)
			}
		}
	}
	if p, e := eddsa.Public(make([]byte, 1<<20)); e != api.ErrArg || p != [32]byte{} {
		t.Errorf("P8.1: the public key of 2^20 bytes: %x, error %d", p, e)
	}
}

func TestSignedIsVerified(t *testing.T) {
	for i, seed := range seeds() {
		p, e := eddsa.Public(seed)
		if e != api.OK {
			t.Fatalf("P8.2: the public key of %x: error %d", seed, e)
		}
		for _, text := range [][]byte{nil, seed, p[:], sample(5*i, 82)} {
			s, e := eddsa.Sign(seed, text)
			if e != api.OK || !eddsa.Verify(p[:], text, s[:]) {
				t.Errorf("P8.2: who signs %x by %x isn't verified", text, seed)
			}
			if !bytes.Equal(p[:], public(seed)) || !ed25519.Verify(p[:], text, s[:]) {
				t.Errorf("P8.1: the library doesn't verify who signs %x by %x", text, seed)
			}
		}
	}
}

func TestVerifyTheLibrarys(t *testing.T) {
	l := seeds()
	for i, seed := range l {
		text := sample(2*i, 83)
		s := sign(seed, text)
		if !eddsa.Verify(public(seed), text, s) {
			t.Errorf("P8.1: the library's signature of %x by %x isn't right", text, seed)
		}
		if eddsa.Verify(public(l[(i+1)%len(l)]), text, s) {
			t.Errorf("P8.1: the signature of %x by %x is right for another key", text, seed)
		}
		if eddsa.Verify(public(seed), append(text, 0), s) {
			t.Errorf("P8.1: the signature of %x by %x is right for a byte more", text, seed)
		}
	}
}

// TestVerifyEveryBit holds that with another bit of anything nothing is right.
func TestVerifyEveryBit(t *testing.T) {
	text := sample(20, 84)
	key, sig := public(sample(32, 84)), sign(sample(32, 84), text)
	if !eddsa.Verify(key, text, sig) {
		t.Fatal("P8.1: the signature isn't right")
	}
	for name, row := range map[string][]byte{"key": key, "text": text, "signature": sig} {
		for bit := range 8 * len(row) {
			row[bit/8] ^= 1 << (bit % 8)
			if eddsa.Verify(key, text, sig) {
				t.Errorf("P8.1: it is right with another bit %d of the %s", bit, name)
			}
			row[bit/8] ^= 1 << (bit % 8)
		}
	}
}

func TestVerifyLength(t *testing.T) {
	text := []byte("abc")
	key, sig := public(sample(32, 85)), sign(sample(32, 85), text)
	long := slices.Concat(sig, sig)
	for n := range 2 * len(sig) {
		if got := eddsa.Verify(key, text, long[:n]); got != (n == 64) {
			t.Errorf("P8.1: whether %d bytes are a right signature: %v", n, got)
		}
		wide := slices.Concat(key, key, key, key)
		if got := eddsa.Verify(wide[:n], text, sig); got != (n == 32) {
			t.Errorf("P8.1: whether it is right for a key of %d bytes: %v", n, got)
		}
	}
	if eddsa.Verify(nil, nil, nil) || eddsa.Verify(key, text, nil) || eddsa.Verify(nil, text, sig) || eddsa.Verify(make([]byte, 1<<20), text, make([]byte, 1<<20)) {
		t.Error("P8.1: no bytes, or 2^20 of them, are right")
	}
}

func TestVerifyWrongRows(t *testing.T) {
	text := []byte("abc")
	key, sig := public(sample(32, 86)), sign(sample(32, 86), text)
	for _, b := range []byte{0, 1, 2, 127, 128, 255} {
		if eddsa.Verify(key, text, bytes.Repeat([]byte{b}, 64)) {
			t.Errorf("P8.1: 64 bytes of %d are a right signature", b)
		}
		if eddsa.Verify(bytes.Repeat([]byte{b}, 32), text, sig) {
			t.Errorf("P8.1: it is right for a key of 32 bytes of %d", b)
		}
	}
	if eddsa.Verify(key, text, slices.Concat(sig[32:], sig[:32])) {
		t.Error("P8.1: S and R, turned, are a right signature")
	}
}

// TestVerifyHighScalar holds S with L added: the equation holds as before, but it is no scalar's.
func TestVerifyHighScalar(t *testing.T) {
	for i := range int64(20) {
		text := sample(10, i)
		seed := sample(32, 870+i)
		key, sig := public(seed), sign(seed, text)
		tried := 0
		for s := numberOf(sig[32:]); s.BitLen() <= 256; s.Add(s, order) {
			row := row32(s)
			want := s.Cmp(order) < 0
			if got := eddsa.Verify(key, text, slices.Concat(sig[:32], row[:])); got != want {
				t.Errorf("P8.1: whether it is right with an S of %x: %v", s, got)
			}
			tried++
		}
		if tried < 15 {
			t.Errorf("of S with L added only %d were tried: this tests too little", tried)
		}
	}
}

// TestVerifyEdgeScalars holds S that are 0, L - 1 and L, for the R that belongs to them.
func TestVerifyEdgeScalars(t *testing.T) {
	seed := sample(32, 88)
	key := point.Base().Times(row32(secretNumber(seed)))
	for _, s := range []*big.Int{big.NewInt(0), big.NewInt(1), new(big.Int).Sub(order, big.NewInt(1)), order, new(big.Int).Add(order, big.NewInt(1))} {
		// Zero as the key lets R be chosen ahead: its multiples play no part.
		zero, r, row := point.Zero().Bytes(), point.Base().Times(row32(s)).Bytes(), row32(s)
		sig := slices.Concat(r[:], row[:])
		if got, want := eddsa.Verify(zero[:], []byte("abc"), sig), s.Cmp(order) < 0; got != want {
			t.Errorf("P8.1: whether an S of %x is right, with zero as the key: %v", s, got)
		}
		if bytes := key.Bytes(); eddsa.Verify(bytes[:], []byte("abc"), sig) {
			t.Errorf("P8.1: an S of %x is right for a key that didn't sign", s)
		}
	}
}

// turn is a point of which 8 are zero, and no fewer.
func turn() point.Point {
	for b := byte(2); ; b++ {
		q, e := point.Get(append([]byte{b}, make([]byte, 31)...))
		if e != api.OK {
			continue
		}
		if q = q.Times(row32(order)); !q.Times([32]byte{4}).Same(point.Zero()) {
			return q
		}
	}
}

// forge looks for a signature of a text, for the key of a number and, beside that, of some turns, with these bytes: R has as many turns as take those of the multiple away, if take says so of k and of that count.
func forge(t *testing.T, number *big.Int, key []byte, shift point.Point, take func(k *big.Int, count int) bool) (text, sig []byte) {
	t.Helper()
	for i := range int64(1000) {
		text = big.NewInt(i).Bytes()
		r := rest(sumOf(text))
		for count := range 8 {
			first := point.Base().Times(row32(r)).Add(shift.Neg().Times([32]byte{byte(count)})).Bytes()
			k := sumOf(first[:], key, text)
			if take(k, count) {
				s := row32(rest(r.Add(r, rest(k).Mul(rest(k), number))))
				return text, slices.Concat(first[:], s[:])
			}
		}
	}
	t.Fatal("no such signature is found")
	return nil, nil
}

// count8 is how many turns a multiple by a number has.
func count8(n *big.Int) int { return int(new(big.Int).Mod(n, big.NewInt(8)).Int64()) }

// TestVerifyWithTurns holds that the equation holds as points, with k the rest: not eight times of both, and not with the sum as a whole.
func TestVerifyWithTurns(t *testing.T) {
	number, shift := secretNumber(sample(32, 89)), turn()
	for n := range byte(8) {
		part := shift.Times([32]byte{n})
		key := point.Base().Times(row32(number)).Add(part).Bytes()
		kinds := []struct {
			name string
			take func(k *big.Int, count int) bool
			want bool
		}{
			{"R takes those of k's multiple away", func(k *big.Int, count int) bool { return count == count8(rest(k)) }, true},
			{"R takes no turns away, k's multiple has none", func(k *big.Int, count int) bool { return count == 0 && count8(rest(k)) == 0 }, true},
			{"R takes as many away as the whole sum's multiple has", func(k *big.Int, count int) bool {
				return int(n)*(count-count8(k))%8 == 0 && int(n)*(count-count8(rest(k)))%8 != 0
			}, false},
			{"R takes too many away", func(k *big.Int, count int) bool { return int(n)*(count-count8(rest(k)))%8 != 0 }, false},
		}
		for _, kind := range kinds {
			if !kind.want && n == 0 {
				continue
			}
			text, sig := forge(t, number, key[:], part, kind.take)
			if got := eddsa.Verify(key[:], text, sig); got != kind.want {
				t.Errorf("P8.1: of a key with %d turns, %s: it is right: %v", n, kind.name, got)
			}
		}
	}
}

// TestVerifyTurnInR holds that a turn that R has of its own isn't taken away, either.
func TestVerifyTurnInR(t *testing.T) {
	seed, text := sample(32, 90), []byte("abc")
	key, shift := public(seed), turn()
	r := rest(sumOf([]byte("r")))
	for n := range byte(8) {
		first := point.Base().Times(row32(r)).Add(shift.Times([32]byte{n})).Bytes()
		k := rest(sumOf(first[:], key, text))
		s := row32(rest(k.Add(k.Mul(k, secretNumber(seed)), r)))
		if got := eddsa.Verify(key, text, slices.Concat(first[:], s[:])); got != (n == 0) {
			t.Errorf("P8.1: whether it is right with %d turns in R: %v", n, got)
		}
	}
}

// otherRows are rows that aren't a point's bytes, but would be read as that by who takes a y that isn't below p, or the bit where x is 0.
func otherRows(q point.Point) (l [][]byte) {
	p := new(big.Int).Sub(new(big.Int).Lsh(big.NewInt(1), 255), big.NewInt(19))
	own := q.Bytes()
	y := numberOf(own[:])
	bit := y.Bit(255)
	y.SetBit(y, 255, 0)
	if q.Same(q.Neg()) {
		row := row32(new(big.Int).SetBit(y, 255, 1))
		l = append(l, row[:])
	}
	if high := new(big.Int).Add(y, p); high.BitLen() <= 255 {
		row := row32(new(big.Int).SetBit(high, 255, bit))
		l = append(l, row[:])
		if q.Same(q.Neg()) {
			turned := row
			turned[31] ^= 128
			l = append(l, turned[:])
		}
	}
	return l
}

// TestVerifyKeysBytes holds keys that few times are zero, in their own bytes and in rows that aren't a point's bytes.
func TestVerifyKeysBytes(t *testing.T) {
	others := 0
	for n := range byte(8) {
		q := turn().Times([32]byte{n})
		own := q.Bytes()
		take := func(k *big.Int, count int) bool { return count == count8(rest(k)) }
		text, sig := forge(t, big.NewInt(0), own[:], q, take)
		if !eddsa.Verify(own[:], text, sig) {
			t.Errorf("P8.1: it isn't right for the key %x", own)
		}
		for _, row := range otherRows(q) {
			others++
			text, sig := forge(t, big.NewInt(0), row, q, take)
			if eddsa.Verify(row, text, sig) {
				t.Errorf("P8.1: it is right for the key %x, which is not a point's bytes", row)
			}
		}
	}
	// Of zero three, of the other point without x one, of the two whose y is 0 one each.
	if others != 6 {
		t.Errorf("%d rows: this tests too little", others)
	}
}

// TestVerifyRsBytes holds the same of R: for an S of 0 and such a key R is one of few points.
func TestVerifyRsBytes(t *testing.T) {
	others := 0
	for n := range byte(8) {
		q := turn().Times([32]byte{n})
		own := q.Bytes()
		key := q.Neg().Bytes()
		for i, row := range append([][]byte{own[:]}, otherRows(q)...) {
			// Where k is 1 more than a multiple of 8, R takes the key's multiple away.
			text := []byte{0}
			for count8(rest(sumOf(row, key[:], text))) != 1 {
				text[0]++
			}
			if got := eddsa.Verify(key[:], text, append(slices.Clone(row), make([]byte, 32)...)); got != (i == 0) {
				t.Errorf("P8.1: whether it is right with an R of %x: %v", row, got)
			}
			others += min(i, 1)
		}
	}
	// Of zero three, of the other point without x one, of the two whose y is 0 one each.
	if others != 6 {
		t.Errorf("%d rows: this tests too little", others)
	}
}

// rowsOfRoom are the rows that a call is handed, each with room behind it.
func rowsOfRoom() (wholes, rows [][]byte) {
	seed, text := sample(32, 91), sample(100, 91)
	for _, row := range [][]byte{seed, text, public(seed), sign(seed, text)} {
		wholes = append(wholes, slices.Concat(row, bytes.Repeat([]byte{7}, 200)))
		rows = append(rows, wholes[len(wholes)-1][:len(row)])
	}
	return wholes, rows
}

func TestArguments(t *testing.T) {
	wholes, rows := rowsOfRoom()
	kept, _ := rowsOfRoom()
	p, _ := eddsa.Public(rows[0])
	s, _ := eddsa.Sign(rows[0], rows[1])
	if !eddsa.Verify(rows[2], rows[1], rows[3]) || !bytes.Equal(p[:], rows[2]) || !bytes.Equal(s[:], rows[3]) {
		t.Error("P8.1: what is handed in with room behind it is answered otherwise")
	}
	for i, whole := range wholes {
		if !bytes.Equal(whole, kept[i]) {
			t.Errorf("P0.3: row %d, or the room behind it, is changed: %x", i, whole)
		}
		clear(whole)
	}
	if !bytes.Equal(p[:], kept[2][:32]) || !bytes.Equal(s[:], kept[3][:64]) || !eddsa.Verify(p[:], kept[1][:100], s[:]) {
		t.Error("P0.3: what is handed in is kept")
	}
	// One row may be handed in as several arguments.
	if s, e := eddsa.Sign(kept[0][:32], kept[0][:32]); e != api.OK || !bytes.Equal(s[:], sign(kept[0][:32], kept[0][:32])) {
		t.Errorf("P8.1: a seed signs itself: %x, error %d", s, e)
	}
	if eddsa.Verify(kept[3][:32], kept[3], kept[3][:64]) {
		t.Error("P8.1: a signature is right for itself")
	}
}

func TestAnswersAreNew(t *testing.T) {
	seed, text := sample(32, 92), []byte("abc")
	p, _ := eddsa.Public(seed)
	s, _ := eddsa.Sign(seed, text)
	clear(p[:])
	clear(s[:])
	q, _ := eddsa.Public(seed)
	r, _ := eddsa.Sign(seed, text)
	if !bytes.Equal(q[:], public(seed)) || !bytes.Equal(r[:], sign(seed, text)) || !bytes.Equal(seed, sample(32, 92)) {
		t.Error("P0.3: who writes into an answer changes another one, or an argument")
	}
}

func TestNilIsEmpty(t *testing.T) {
	seed := sample(32, 93)
	for _, text := range [][]byte{nil, {}} {
		s, e := eddsa.Sign(seed, text)
		if e != api.OK || !bytes.Equal(s[:], sign(seed, nil)) {
			t.Errorf("P0.4: the signature of no bytes: %x, error %d", s, e)
		}
		for _, other := range [][]byte{nil, {}} {
			if !eddsa.Verify(public(seed), other, s[:]) {
				t.Error("P0.4: who signs no bytes isn't verified")
			}
		}
		if p, e := eddsa.Public(text); e != api.ErrArg || p != [32]byte{} {
			t.Errorf("P0.4: the public key of no bytes: %x, error %d", p, e)
		}
		if s, e := eddsa.Sign(text, nil); e != api.ErrArg || s != [64]byte{} {
			t.Errorf("P0.4: the signature by no bytes: %x, error %d", s, e)
		}
		if eddsa.Verify(text, nil, s[:]) || eddsa.Verify(public(seed), nil, text) {
			t.Error("P0.4: no bytes are a key, or a signature")
		}
	}
}

func TestAgain(t *testing.T) {
	ask := func() (out [][64]byte) {
		for i, seed := range seeds()[:20] {
			s, _ := eddsa.Sign(seed, sample(i, 94))
			p, _ := eddsa.Public(seed)
			var row [64]byte
			copy(row[:], p[:])
			if eddsa.Verify(p[:], sample(i, 94), s[:]) {
				row[40] = 1
			}
			out = append(out, s, row)
		}
		return out
	}
	first := ask()
	for range 3 {
		if !slices.Equal(ask(), first) {
			t.Fatal("P0.5: the same calls answer otherwise")
		}
	}
}
