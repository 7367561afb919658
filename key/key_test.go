package key_test

import (
	"bytes"
	"crypto/sha512"
	"encoding/hex"
	"fmt"
	"math/rand"
	"slices"
	"strconv"
	"strings"
	"testing"

	"greffier/api"
	"greffier/key"
	"greffier/sexp"
)

// atom, list and hinted make values.
func atom(s string) api.Sexp { return api.Sexp{Data: []byte(s)} }

func list(l ...api.Sexp) api.Sexp { return api.Sexp{List: true, Kids: l} }

func hinted(hint, s string) api.Sexp {
	return api.Sexp{Hinted: true, Hint: []byte(hint), Data: []byte(s)}
}

// public and sum make principals, and others that may not be.
func public(s string) api.Key { return api.Key{Data: []byte(s)} }

func sum(s string) api.Key { return api.Key{Sum: true, Data: []byte(s)} }

// told is a principal field by field: a nil list is told as an empty one.
func told(k api.Key) string { return fmt.Sprintf("%v %x", k.Sum, k.Data) }

// toldValue is a value field by field.
func toldValue(v api.Sexp) string { return fmt.Sprintf("%+v", v) }

// sample are so many bytes, the same ones each time.
func sample(n int, seed int64) string {
	b := make([]byte, n)
	rand.New(rand.NewSource(seed)).Read(b)
	return string(b)
}

// rows are rows of so many bytes: of each byte alone, of bytes that mean something in a form, and random ones.
func rows(n int) (l []string) {
	for c := range 256 {
		l = append(l, strings.Repeat(string([]byte{byte(c)}), n))
	}
	for _, s := range []string{"()", "[1:h]1:a", "32:", "64:", "))", "(10:public-key(7:ed2551932:", "(4:hash6:sha51264:"} {
		l = append(l, strings.Repeat(s, n)[:n])
	}
	for seed := range 100 {
		l = append(l, sample(n, int64(seed)))
	}
	return l
}

// both are principals of each kind.
func both() (l []api.Key) {
	for _, s := range rows(32) {
		l = append(l, public(s))
	}
	for _, s := range rows(64) {
		l = append(l, sum(s))
	}
	return l
}

// others are what may not be a principal.
func others() (l []api.Key) {
	for _, n := range []int{0, 1, 2, 16, 31, 33, 63, 64, 65, 96, 127, 128, 255, 256, 4095, 4096, 4097, 1 << 16, 1<<16 + 32} {
		l = append(l, public(sample(n, 1)))
	}
	for _, n := range []int{0, 1, 2, 16, 31, 32, 33, 63, 65, 96, 127, 128, 255, 256, 4095, 4096, 4097, 1 << 16, 1<<16 + 64} {
		l = append(l, sum(sample(n, 1)))
	}
	return append(l, api.Key{}, api.Key{Sum: true})
}

// The canonical forms of principals have their bytes between two texts.
const (
	publicHead, publicTail = "(10:public-key(7:ed2551932:", "))"
	sumHead, sumTail       = "(4:hash6:sha51264:", ")"
)

// wantForm is the canonical form of a principal that may be.
func wantForm(k api.Key) string {
	if k.Sum {
		return sumHead + string(k.Data) + sumTail
	}
	return publicHead + string(k.Data) + publicTail
}

// wantGet is the principal of a value by other means: its form is as long as one's, and has the two texts at its ends.
func wantGet(v api.Sexp) (api.Key, bool) {
	form, e := sexp.Put(v)
	s := string(form)
	switch {
	case e != api.OK:
		return api.Key{}, false
	case len(s) == 61 && s[:27] == publicHead && s[59:] == publicTail:
		return public(s[27:59]), true
	case len(s) == 83 && s[:18] == sumHead && s[82:] == sumTail:
		return sum(s[18:82]), true
	}
	return api.Key{}, false
}

// wantSum is the sum of a public key, by the library.
func wantSum(public string) [64]byte {
	return sha512.Sum512([]byte(publicHead + public + publicTail))
}

// checkGet holds Get of a value against the other means, and what it answers against P14.2; it tells whether there was a principal.
func checkGet(t *testing.T, v api.Sexp) bool {
	t.Helper()
	got, e := key.Get(v)
	want, ok := wantGet(v)
	if !ok {
		if e != api.ErrKind || told(got) != told(api.Key{}) {
			t.Errorf("P14.1: Get of %s: %s, %v; want ErrKind", toldValue(v), told(got), e)
		}
		return false
	}
	if e != api.OK || told(got) != told(want) {
		t.Errorf("P14.1: Get of %s: %s, %v; want %s", toldValue(v), told(got), e, told(want))
	}
	if back, e := key.Put(got); e != api.OK || toldValue(back) != toldValue(v) {
		t.Errorf("P14.2: what is got of %s is put as %s, %v", toldValue(v), toldValue(back), e)
	}
	return true
}

func TestMay(t *testing.T) {
	for n := range 5000 {
		s := sample(n, 2)
		if got := key.May(public(s)); got != (n == 32) {
			t.Errorf("P14.1: May of a public key of %d bytes: %v", n, got)
		}
		if got := key.May(sum(s)); got != (n == 64) {
			t.Errorf("P14.1: May of a sum of %d bytes: %v", n, got)
		}
	}
	for _, k := range both() {
		if !key.May(k) {
			t.Errorf("P14.1: May of %s: false", told(k))
		}
	}
	for _, k := range others() {
		if key.May(k) {
			t.Errorf("P14.1: May of %s: true", told(k))
		}
	}
}

func TestPut(t *testing.T) {
	for _, k := range both() {
		v, e := key.Put(k)
		form, _ := sexp.Put(v)
		if e != api.OK || string(form) != wantForm(k) {
			t.Errorf("P14.1: Put of %s: %q, %v; want %q", told(k), form, e, wantForm(k))
		}
	}
}

func TestPutOfOthers(t *testing.T) {
	for _, k := range others() {
		if v, e := key.Put(k); e != api.ErrKind || toldValue(v) != toldValue(api.Sexp{}) {
			t.Errorf("P14.1: Put of %s: %s, %v; want ErrKind", told(k), toldValue(v), e)
		}
	}
}

func TestThereAndBack(t *testing.T) {
	for _, k := range both() {
		v, e := key.Put(k)
		if e != api.OK {
			t.Fatalf("P14.1: Put of %s: %v", told(k), e)
		}
		if got, e := key.Get(v); e != api.OK || told(got) != told(k) {
			t.Errorf("P14.2: what is put of %s is got as %s, %v", told(k), told(got), e)
		}
		read, _, _ := sexp.Get([]byte(wantForm(k)))
		if !checkGet(t, read) {
			t.Errorf("P14.2: no principal stands in %q", wantForm(k))
		}
	}
}

// TestGetOfEveryByte holds that of each form with another byte in it just those are principals' that have it in their own bytes.
func TestGetOfEveryByte(t *testing.T) {
	for _, k := range []api.Key{public(sample(32, 3)), sum(sample(64, 3))} {
		form, found, want := wantForm(k), 0, 256*len(k.Data)
		// A form has no other byte elsewhere that leaves it a principal's, so it is found as it was at each place there.
		want += len(form) - len(k.Data)
		for at := range form {
			for c := range 256 {
				s := form[:at] + string([]byte{byte(c)}) + form[at+1:]
				if v, _, e := sexp.Get([]byte(s)); e == api.OK && checkGet(t, v) {
					found++
				}
			}
		}
		if found != want {
			t.Errorf("P14.1: of %s with other bytes %d are principals; want %d", told(k), found, want)
		}
	}
}

// TestGetOfEveryLength holds that of each length of the bytes just the kind's own is a principal's.
func TestGetOfEveryLength(t *testing.T) {
	for n := range 130 {
		s := sample(n, 4)
		if got := checkGet(t, list(atom("public-key"), list(atom("ed25519"), atom(s)))); got != (n == 32) {
			t.Errorf("P14.1: Get of a public key's value with %d bytes: %v", n, got)
		}
		if got := checkGet(t, list(atom("hash"), atom("sha512"), atom(s))); got != (n == 64) {
			t.Errorf("P14.1: Get of a sum's value with %d bytes: %v", n, got)
		}
	}
}

// everyList hands on each list of up to so many of some values.
func everyList(n int, ahead, of []api.Sexp, told func(v api.Sexp)) {
	told(list(ahead...))
	if n == 0 {
		return
	}
	for _, v := range of {
		everyList(n-1, append(slices.Clip(ahead), v), of, told)
	}
}

func TestGetOfFew(t *testing.T) {
	short, long := atom(sample(32, 5)), atom(sample(64, 5))
	inner := []api.Sexp{atom("public-key"), atom("ed25519"), atom("hash"), atom("sha512"), short, long, list(), hinted("", "ed25519"), hinted("h", string(short.Data))}
	outer := slices.Clone(inner[:7])
	found := 0
	everyList(3, nil, inner, func(v api.Sexp) {
		outer = append(outer, v)
		everyList(1, []api.Sexp{v}, inner[:7], func(v api.Sexp) { checkGet(t, v) })
	})
	everyList(2, nil, outer, func(v api.Sexp) {
		if checkGet(t, v) {
			found++
		}
	})
	if found != 1 {
		t.Errorf("P14.1: of few values %d are public keys'; want 1", found)
	}
	found = 0
	everyList(4, nil, append(inner, list(atom("ed25519"), short), list(long), hinted("", "hash"), hinted("h", string(long.Data))), func(v api.Sexp) {
		if checkGet(t, v) {
			found++
		}
	})
	if found != 2 {
		t.Errorf("P14.1: of few other values %d are principals'; want 2", found)
	}
}

func TestGetOfWords(t *testing.T) {
	short, long := sample(32, 6), sample(64, 6)
	for _, word := range []string{"", "p", "public", "public-ke", "public-keys", "Public-key", "PUBLIC-KEY", "public_key", "publickey", "private-key", "secret-key", "hash", "ed25519", " public-key", "public-key\x00"} {
		checkNone(t, list(atom(word), list(atom("ed25519"), atom(short))))
	}
	for _, word := range []string{"", "ed", "ed2551", "ed255190", "Ed25519", "ED25519", "ed448", "rsa", "ed25519\x00", "public-key", "sha512"} {
		checkNone(t, list(atom("public-key"), list(atom(word), atom(short))))
	}
	for _, word := range []string{"", "h", "has", "hashs", "Hash", "HASH", "sum", "hash ", "public-key", "sha512"} {
		checkNone(t, list(atom(word), atom("sha512"), atom(long)))
	}
	for _, word := range []string{"", "sha", "sha51", "sha5120", "Sha512", "SHA512", "sha-512", "sha256", "sha384", "md5", "hash", "ed25519"} {
		checkNone(t, list(atom("hash"), atom(word), atom(long)))
	}
}

// checkNone holds that a value has no principal.
func checkNone(t *testing.T, v api.Sexp) {
	t.Helper()
	if checkGet(t, v) {
		t.Errorf("P14.1: there is a principal of %s", toldValue(v))
	}
}

func TestGetOfShapes(t *testing.T) {
	short, long := atom(sample(32, 7)), atom(sample(64, 7))
	one, other := list(atom("public-key"), list(atom("ed25519"), short)), list(atom("hash"), atom("sha512"), long)
	for _, v := range []api.Sexp{
		{}, atom("abc"), list(), short, long, hinted("h", "a"), list(short), list(long), list(one), list(other), list(one, one), list(one, other), list(other, one, one),
		one.Kids[1], list(other.Kids[1:]...), list(atom("public-key")), list(atom("hash")), list(atom("public-key"), list()), list(atom("public-key"), list(atom("ed25519"))),
		list(atom("public-key"), list(atom("ed25519"), list(short))), list(atom("public-key"), list(list(atom("ed25519")), short)), list(list(atom("public-key")), list(atom("ed25519"), short)),
		list(atom("public-key"), atom("ed25519"), short), list(atom("public-key"), atom("ed25519"), long), list(atom("public-key"), list(atom("ed25519"), long)),
		list(atom("public-key"), list(list(atom("ed25519"), short))), list(list(atom("ed25519"), short), atom("public-key")), list(atom("public-key"), list(short, atom("ed25519"))),
		list(atom("public-key"), list(atom("ed25519"), short), atom("")), list(atom("public-key"), list(atom("ed25519"), short, atom(""))), list(atom(""), atom("public-key"), list(atom("ed25519"), short)),
		list(atom("public-key"), list(atom("ed25519"), short), list()), list(atom("public-key"), list(atom("ed25519"), short), list(atom("ed25519"), short)), list(atom("public-key"), list(atom("ed25519"), short, short)),
		list(atom("hash"), list(atom("sha512"), long)), list(atom("hash"), list(atom("ed25519"), short)), list(atom("public-key"), list(atom("sha512"), long)), list(atom("hash"), atom("sha512"), short), list(atom("hash"), atom("sha512")),
		list(atom("hash"), atom("sha512"), list(long)), list(atom("hash"), list(atom("sha512")), long), list(list(atom("hash")), atom("sha512"), long), list(atom("hash"), atom("sha512"), long, atom("")), list(atom("hash"), atom("sha512"), long, long),
		list(atom("hash"), long, atom("sha512")), list(atom("sha512"), atom("hash"), long), list(atom("sha512"), long), list(atom("hash"), long), list(atom("hash"), atom("sha512"), atom("http://a"), long), list(atom("hash"), atom("sha512"), one),
	} {
		checkNone(t, v)
	}
}

// changed hands on a value with each of its parts changed by a function, one at a time, in new memory.
func changed(v api.Sexp, change func(part *api.Sexp), told func(v api.Sexp)) {
	own := sexp.Clone(v)
	change(&own)
	told(own)
	for i, kid := range v.Kids {
		changed(kid, change, func(part api.Sexp) {
			own := sexp.Clone(v)
			own.Kids[i] = part
			told(own)
		})
	}
}

// TestGetOfFields holds that a value with something in a field of any of its parts that it may not have is no principal's.
func TestGetOfFields(t *testing.T) {
	for _, k := range []api.Key{public(sample(32, 8)), sum(sample(64, 8))} {
		v, _ := key.Put(k)
		for name, change := range map[string]func(part *api.Sexp){
			"an empty hint":         func(part *api.Sexp) { part.Hinted = true },
			"a hint":                func(part *api.Sexp) { part.Hinted, part.Hint = true, []byte("h") },
			"bytes of a hint":       func(part *api.Sexp) { part.Hint = []byte("h") },
			"a byte more":           func(part *api.Sexp) { part.Data = append(part.Data, 0) },
			"a kid more":            func(part *api.Sexp) { part.Kids = append(part.Kids, api.Sexp{}) },
			"a list more":           func(part *api.Sexp) { part.Kids = append(part.Kids, list()) },
			"a kid ahead":           func(part *api.Sexp) { part.Kids = append([]api.Sexp{{}}, part.Kids...) },
			"the value in it":       func(part *api.Sexp) { part.Kids = append(part.Kids, v) },
			"a list around it":      func(part *api.Sexp) { *part = list(*part) },
			"a list, or none":       func(part *api.Sexp) { part.List = !part.List },
			"nothing":               func(part *api.Sexp) { *part = api.Sexp{} },
			"an empty list instead": func(part *api.Sexp) { *part = list() },
		} {
			changed(v, change, func(v api.Sexp) {
				if got, e := key.Get(v); e != api.ErrKind || told(got) != told(api.Key{}) {
					t.Errorf("P14.1: Get of %s's value with %s: %s: %s, %v; want ErrKind", told(k), name, toldValue(v), told(got), e)
				}
			})
		}
	}
}

// TestGetOfMany holds P0.1 of values that are beyond the limits, and of one that holds itself.
func TestGetOfMany(t *testing.T) {
	kids := make([]api.Sexp, 3)
	in := list(kids...)
	for i := range kids {
		kids[i] = in
	}
	two := make([]api.Sexp, 2)
	two[0], two[1] = atom("public-key"), list(two...)
	two[1].Kids = two
	deep := list(atom("a"))
	for range 1 << 14 {
		deep = list(atom("public-key"), deep)
	}
	huge := atom(strings.Repeat("a", 1<<24))
	for name, v := range map[string]api.Sexp{
		"a list in itself": in, "a list in the list of public-key": list(two...), "a deep list": deep, "many lists": list(slices.Repeat([]api.Sexp{list()}, 1<<20)...), "a long atom": huge,
		"a long key": list(atom("public-key"), list(atom("ed25519"), huge)), "a long sum": list(atom("hash"), atom("sha512"), huge), "a long word": list(huge, atom("sha512"), atom(sample(64, 1))), "long words": list(huge, list(huge, atom(sample(32, 1)))),
		"many in a key": list(atom("public-key"), list(slices.Repeat([]api.Sexp{atom("ed25519")}, 1<<20)...)), "itself as a sum": list(atom("hash"), atom("sha512"), in),
	} {
		if k, e := key.Get(v); e != api.ErrKind || told(k) != told(api.Key{}) {
			t.Errorf("P14.1: Get of %s: %s, %v; want ErrKind", name, told(k), e)
		}
	}
}

// someBytes are bytes that a principal may have, or some others.
func someBytes(source *rand.Rand) string {
	return sample([]int{0, 31, 32, 32, 32, 63, 64, 64, 64}[source.Intn(9)], source.Int63())
}

// someValue is a random value of principals' words and shapes.
func someValue(source *rand.Rand, deep int) api.Sexp {
	switch n := source.Intn(8); {
	case n == 0 && deep > 0:
		v := list()
		for range source.Intn(5) {
			v.Kids = append(v.Kids, someValue(source, deep-1))
		}
		return v
	case n == 1:
		return hinted("h", someBytes(source))
	case n < 4:
		return atom([]string{"public-key", "ed25519", "hash", "sha512"}[source.Intn(4)])
	case n < 6 && deep > 0:
		return list(atom([]string{"public-key", "ed25519"}[source.Intn(2)]), someValue(source, deep-1))
	case n == 6 && deep > 0:
		return list(atom("hash"), atom("sha512"), someValue(source, deep-1))
	}
	return atom(someBytes(source))
}

func TestGetOfSome(t *testing.T) {
	source := rand.New(rand.NewSource(9))
	found := map[bool]int{}
	for range 200000 {
		v := someValue(source, 3)
		if checkGet(t, v) {
			k, _ := key.Get(v)
			found[k.Sum]++
		}
	}
	if found[false] < 100 || found[true] < 100 {
		t.Errorf("of random values but %d are public keys', %d sums'", found[false], found[true])
	}
}

// TestKnown holds sums that were told by another program.
func TestKnown(t *testing.T) {
	count := make([]byte, 32)
	for i := range count {
		count[i] = byte(i)
	}
	for public, want := range map[string]string{
		strings.Repeat("\x00", 32): "e15f591cee837e4fd1f63988d0625019c2f833ef47eef3c9725ca5427ead12876a6d133b4d8ca0c66a4250eadb6231978e7315b2e8d60cd0797cb43b47949b33",
		strings.Repeat("k", 32):    "81622765ef8a859ef5eb57d1a1d16a741d959adb6bc200ecea8c610427d74df2df94c6b78f9a4417f6299bf66bb2ae74cb9841541373c28a7fbbf37c637eab75",
		string(count):              "3f52ce26303667d3201f1757d4cbf310a3b3f1cb558273e5dc6e9747e59bebe6fe30dc3b6d24a189ec1190b12330dc3983bde381c2e65b3f6113008d1d110fa7",
	} {
		k, e := key.Sum([]byte(public))
		if e != api.OK || !k.Sum || hex.EncodeToString(k.Data) != want {
			t.Errorf("P14.1: Sum of %q: %s, %v; want %s", public, told(k), e, want)
		}
	}
}

func TestSum(t *testing.T) {
	for _, s := range rows(32) {
		want := wantSum(s)
		k, e := key.Sum([]byte(s))
		if e != api.OK || told(k) != told(api.Key{Sum: true, Data: want[:]}) {
			t.Errorf("P14.1: Sum of %q: %s, %v; want %x", s, told(k), e, want)
		}
		if id, e := key.Id(public(s)); e != api.OK || id != want {
			t.Errorf("P14.1: Id of the public key %q: %x, %v; want %x", s, id, e, want)
		}
	}
	for n := range 200 {
		k, e := key.Sum([]byte(sample(n, 10)))
		if n != 32 && (e != api.ErrKind || told(k) != told(api.Key{})) {
			t.Errorf("P14.1: Sum of %d bytes: %s, %v; want ErrKind", n, told(k), e)
		}
	}
	if k, e := key.Sum(make([]byte, 1<<24)); e != api.ErrKind || told(k) != told(api.Key{}) {
		t.Errorf("P14.1: Sum of many bytes: %s, %v; want ErrKind", told(k), e)
	}
}

func TestId(t *testing.T) {
	for _, s := range rows(64) {
		if id, e := key.Id(sum(s)); e != api.OK || string(id[:]) != s {
			t.Errorf("P14.1: Id of the sum %x: %x, %v", s, id, e)
		}
	}
	for _, k := range others() {
		if id, e := key.Id(k); e != api.ErrKind || id != [64]byte{} {
			t.Errorf("P14.1: Id of %s: %x, %v; want ErrKind", told(k), id, e)
		}
	}
}

// wantIs is whether a principal is a public key's, by other means.
func wantIs(k api.Key, public string) bool {
	want := public
	if k.Sum {
		sum := wantSum(public)
		want = string(sum[:])
	}
	return len(public) == 32 && string(k.Data) == want
}

func TestIs(t *testing.T) {
	publics := []string{"", "k", sample(31, 1), sample(32, 1), sample(32, 2), sample(33, 1), sample(64, 1), sample(65, 1), strings.Repeat("\x00", 32), strings.Repeat("\x00", 64), strings.Repeat("\xff", 32), sample(4097, 1)}
	for _, s := range slices.Clone(publics) {
		id := wantSum(s)
		publics = append(publics, string(id[:]), string(id[:32]))
	}
	found := 0
	for _, own := range publics {
		id := wantSum(own)
		for _, k := range []api.Key{public(own), sum(own), sum(string(id[:])), public(string(id[:])), public(string(id[:32])), sum(string(id[:63])), sum(string(id[:]) + "\x00"), {}, {Sum: true}} {
			for _, s := range publics {
				if got, want := key.Is(k, []byte(s)), wantIs(k, s); got != want {
					t.Errorf("P14.1: Is of %s and %x: %v; want %v", told(k), s, got, want)
				} else if got {
					found++
				}
			}
		}
	}
	if found < 8 {
		t.Errorf("but %d of some principals are some public keys'", found)
	}
}

// TestIsOfEveryBit holds that a principal with another bit is another public key's, and likewise a public key's.
func TestIsOfEveryBit(t *testing.T) {
	s := sample(32, 11)
	id := wantSum(s)
	for _, k := range []api.Key{public(s), sum(string(id[:]))} {
		if !key.Is(k, []byte(s)) {
			t.Errorf("P14.1: %s isn't %x's", told(k), s)
		}
		for bit := range 8 * len(k.Data) {
			turned := api.Key{Sum: k.Sum, Data: turn(k.Data, bit)}
			if key.Is(turned, []byte(s)) {
				t.Errorf("P14.1: %s is %x's", told(turned), s)
			}
		}
		for bit := range 8 * 32 {
			if key.Is(k, turn([]byte(s), bit)) {
				t.Errorf("P14.1: %s is another key's, of which bit %d is turned", told(k), bit)
			}
		}
	}
}

// turn are the same bytes with a bit turned.
func turn(b []byte, bit int) []byte {
	b = bytes.Clone(b)
	b[bit/8] ^= 1 << (bit % 8)
	return b
}

// TestIsOfNone holds that nothing is the public key's that has not 32 bytes, even if its bytes are the same, or its sum would be.
func TestIsOfNone(t *testing.T) {
	for n := range 130 {
		s := sample(n, 12)
		id := sha512.Sum512([]byte("(10:public-key(7:ed25519" + strconv.Itoa(n) + ":" + s + "))"))
		for _, k := range []api.Key{public(s), sum(string(id[:]))} {
			if got := key.Is(k, []byte(s)); got != (n == 32) {
				t.Errorf("P14.1: Is of %s and a key of %d bytes: %v", told(k), n, got)
			}
		}
	}
	if key.Is(api.Key{}, nil) || key.Is(api.Key{Sum: true}, nil) || key.Is(api.Key{Sum: true}, []byte(sample(32, 12))) || key.Is(sum(strings.Repeat("\x00", 64)), nil) {
		t.Error("P14.1: Is of nothing: true")
	}
}

func TestSame(t *testing.T) {
	l := others()
	for _, n := range []int{32, 64} {
		for _, s := range []string{sample(n, 13), sample(n, 14), strings.Repeat("\x00", n), sample(n-1, 13) + "\x00", sample(n, 13)[:n-1] + "\xff"} {
			l = append(l, public(s), sum(s), public(s), sum(s))
		}
	}
	s := sample(32, 13)
	id := wantSum(s)
	l = append(l, public(s), sum(string(id[:])), public(string(id[:])), sum(s), public(s[:31]), public(s[1:]), sum(string(id[:63])))
	for bit := range 8 * 32 {
		l = append(l, api.Key{Data: turn([]byte(s), bit)})
	}
	for _, a := range l {
		for _, b := range l {
			if got, want := key.Same(a, b), a.Sum == b.Sum && string(a.Data) == string(b.Data); got != want {
				t.Errorf("P14.1: Same of %s and %s: %v; want %v", told(a), told(b), got, want)
			}
		}
	}
}
