package key_test

import (
	"fmt"
	"slices"
	"strings"
	"testing"

	"greffier/api"
	"greffier/key"
	"greffier/sexp"
)

// behind stands in the room behind lists' ends.
const behind = "behind"

// roomy are bytes with others behind their end.
func roomy(b []byte) []byte { return append(slices.Clone(b), behind...)[:len(b)] }

// roomyKey is the same principal, with other bytes behind its own.
func roomyKey(k api.Key) api.Key { return api.Key{Sum: k.Sum, Data: roomy(k.Data)} }

// roomyValue is the same value, with others behind each list's end.
func roomyValue(v api.Sexp) api.Sexp {
	v.Hint, v.Data = roomy(v.Hint), roomy(v.Data)
	kids := []api.Sexp{}
	for _, kid := range v.Kids {
		kids = append(kids, roomyValue(kid))
	}
	v.Kids = append(kids, atom(behind))[:len(kids)]
	return v
}

// whole is a principal with what stands behind its bytes.
func whole(k api.Key) string { return fmt.Sprintf("%v %q", k.Sum, k.Data[:cap(k.Data)]) }

// wholeValue is a value field by field, with what stands behind its lists' ends.
func wholeValue(v api.Sexp) string {
	s := fmt.Sprintf("%v %v %q %q", v.List, v.Hinted, v.Hint[:cap(v.Hint)], v.Data[:cap(v.Data)])
	for _, kid := range v.Kids[:cap(v.Kids)] {
		s += "(" + wholeValue(kid) + ")"
	}
	return s
}

// spoil writes over bytes, and the room behind them.
func spoil(b []byte) {
	for i := range b[:cap(b)] {
		b[:cap(b)][i] ^= 0x55
	}
}

// spoilValue writes over all memory of a value.
func spoilValue(v api.Sexp) {
	spoil(v.Hint)
	spoil(v.Data)
	kids := v.Kids[:cap(v.Kids)]
	for i := range kids {
		spoilValue(kids[i])
		kids[i] = atom("spoilt")
	}
}

// few are principals of each kind, and some that may not be.
func few() []api.Key {
	id := wantSum(sample(32, 1))
	return []api.Key{public(sample(32, 1)), sum(string(id[:])), sum(sample(64, 2)), public(strings.Repeat("\x00", 32)), sum(strings.Repeat("\x00", 64)), {}, {Sum: true}, public(sample(31, 1)), public(sample(64, 1)), sum(sample(32, 1)), sum(sample(65, 1))}
}

// fewValues are those of principals, and some that are none's.
func fewValues() (out []api.Sexp) {
	for _, k := range few() {
		if v, _, e := sexp.Get([]byte(wantForm(k))); e == api.OK {
			out = append(out, v)
		}
		out = append(out, list(atom("public-key"), list(atom("ed25519"), api.Sexp{Data: k.Data})), list(atom("hash"), atom("sha512"), api.Sexp{Data: k.Data}))
	}
	return append(out, api.Sexp{}, list(), atom("abc"), hinted("h", "a"), list(atom("public-key"), hinted("h", "a")), list(list(), list(), list()))
}

func TestArguments(t *testing.T) {
	for _, k := range few() {
		in, again, bytes := roomyKey(k), roomyKey(k), roomy([]byte(sample(32, 1)))
		was, wasBytes := whole(in), string(bytes[:cap(bytes)])
		v, _ := key.Put(in)
		key.May(in)
		key.Id(in)
		key.Is(in, bytes)
		key.Same(in, again)
		key.Same(again, in)
		own, _ := key.Sum(in.Data)
		if whole(in) != was || whole(again) != was || string(bytes[:cap(bytes)]) != wasBytes {
			t.Errorf("P0.3: a principal was changed, or what stands behind it: %s; was %s", whole(in), was)
		}
		before := toldValue(v) + told(own)
		spoil(in.Data)
		if toldValue(v)+told(own) != before {
			t.Errorf("P0.3: what Put or Sum answers of %s shares memory with that", was)
		}
	}
	for _, v := range fewValues() {
		in := roomyValue(v)
		was := wholeValue(in)
		k, _ := key.Get(in)
		if wholeValue(in) != was {
			t.Errorf("P0.3: a value was changed, or what stands behind its lists: %s; was %s", wholeValue(in), was)
		}
		before := told(k)
		spoilValue(in)
		if told(k) != before {
			t.Errorf("P0.3: what Get answers of %s shares memory with that", was)
		}
	}
}

// TestAnswers holds that what is written into an answer, or behind its lists' ends, changes no other part of it, and no other answer.
func TestAnswers(t *testing.T) {
	for _, k := range few() {
		first, _ := key.Put(k)
		second, _ := key.Put(k)
		was := toldValue(second)
		for i := range first.Kids {
			spoilValue(first.Kids[i])
			first.Kids[i] = sexp.Clone(second.Kids[i])
			if toldValue(first) != was {
				t.Errorf("P0.3: parts of what Put answers of %s share memory", told(k))
			}
		}
		spoilValue(first)
		if third, _ := key.Put(k); toldValue(third) != was || toldValue(second) != was {
			t.Errorf("P0.3: what Put answers of %s hangs on what was written into an answer", told(k))
		}
		checkAnswers(t, "Sum of "+told(k), func() api.Key {
			own, _ := key.Sum(k.Data)
			return own
		})
	}
	for _, v := range fewValues() {
		checkAnswers(t, "Get of "+toldValue(v), func() api.Key {
			k, _ := key.Get(v)
			return k
		})
	}
}

// checkAnswers holds that what is written into a principal that is answered changes no other one.
func checkAnswers(t *testing.T, name string, ask func() api.Key) {
	t.Helper()
	first, second := ask(), ask()
	was := told(second)
	spoil(first.Data)
	if third := ask(); told(third) != was || told(second) != was {
		t.Errorf("P0.3: %s hangs on what was written into an answer", name)
	}
}

// TestZero holds that beside an error stands nothing.
func TestZero(t *testing.T) {
	for _, k := range few() {
		if v, e := key.Put(k); e != api.OK && (v.List || v.Hinted || v.Hint != nil || v.Data != nil || v.Kids != nil) {
			t.Errorf("P0.2: Put of %s: %s beside %v", told(k), toldValue(v), e)
		}
		if own, e := key.Sum(k.Data); e != api.OK && (own.Sum || own.Data != nil) {
			t.Errorf("P0.2: Sum of %s: %s beside %v", told(k), told(own), e)
		}
		if id, e := key.Id(k); e != api.OK && id != [64]byte{} {
			t.Errorf("P0.2: Id of %s: %x beside %v", told(k), id, e)
		}
	}
	for _, v := range fewValues() {
		if k, e := key.Get(v); e != api.OK && (k.Sum || k.Data != nil) {
			t.Errorf("P0.2: Get of %s: %s beside %v", toldValue(v), told(k), e)
		}
	}
}

// fullValue is the same value, where nil lists are empty ones.
func fullValue(v api.Sexp) api.Sexp {
	if v.Hint == nil {
		v.Hint = []byte{}
	}
	if v.Data == nil {
		v.Data = []byte{}
	}
	kids := []api.Sexp{}
	for _, kid := range v.Kids {
		kids = append(kids, fullValue(kid))
	}
	v.Kids = kids
	return v
}

// bareValue is the same value, where empty lists are nil ones.
func bareValue(v api.Sexp) api.Sexp {
	var kids []api.Sexp
	for _, kid := range v.Kids {
		kids = append(kids, bareValue(kid))
	}
	return api.Sexp{List: v.List, Hinted: v.Hinted, Hint: append([]byte(nil), v.Hint...), Data: append([]byte(nil), v.Data...), Kids: kids}
}

func TestNilIsEmpty(t *testing.T) {
	for _, v := range fewValues() {
		a, e := key.Get(bareValue(v))
		b, f := key.Get(fullValue(v))
		if e != f || told(a) != told(b) {
			t.Errorf("P0.4: Get of %s: %s, %v; with empty lists: %s, %v", toldValue(v), told(a), e, told(b), f)
		}
	}
	for _, is := range []bool{false, true} {
		none, empty := api.Key{Sum: is}, api.Key{Sum: is, Data: []byte{}}
		if !key.Same(none, empty) || !key.Same(empty, none) || key.May(none) || key.May(empty) {
			t.Errorf("P0.4: %s isn't the same with an empty list", told(none))
		}
		_, e := key.Put(none)
		_, f := key.Put(empty)
		_, g := key.Id(none)
		_, h := key.Id(empty)
		if e != f || g != h || key.Is(none, nil) || key.Is(empty, []byte{}) || key.Is(none, []byte{}) || key.Is(empty, nil) {
			t.Errorf("P0.4: %s: %v, %v; with an empty list: %v, %v", told(none), e, g, f, h)
		}
	}
	_, e := key.Sum(nil)
	_, f := key.Sum([]byte{})
	if e != f {
		t.Errorf("P0.4: Sum of none: %v; of an empty list: %v", e, f)
	}
}

func TestAgain(t *testing.T) {
	ask := func() (out []string) {
		for _, k := range few() {
			v, e := key.Put(k)
			id, f := key.Id(k)
			own, g := key.Sum(k.Data)
			out = append(out, fmt.Sprint(toldValue(v), e, id, f, told(own), g, key.May(k), key.Is(k, few()[0].Data), key.Same(k, few()[0])))
		}
		for _, v := range fewValues() {
			k, e := key.Get(v)
			out = append(out, fmt.Sprint(told(k), e))
		}
		return out
	}
	first := ask()
	for range 3 {
		if !slices.Equal(ask(), first) {
			t.Fatal("P0.5: the same calls answer otherwise")
		}
	}
}
