package tag_test

import (
	"fmt"
	"slices"
	"testing"

	"greffier/api"
	"greffier/sexp"
	"greffier/tag"
)

// behind stands in the room behind lists' ends.
const behind = "behind"

// roomy are bytes with others behind their end.
func roomy(b []byte) []byte { return append(slices.Clone(b), behind...)[:len(b)] }

// roomyValue is the same value, with others behind each list's end.
func roomyValue(v api.Sexp) api.Sexp {
	v.Hint, v.Data = roomy(v.Hint), roomy(v.Data)
	kids := []api.Sexp{}
	for _, kid := range v.Kids {
		kids = append(kids, roomyValue(kid))
	}
	v.Kids = append(kids, atom(behind))[:len(kids)]
	return v
}

// roomyTag is the same tag, with others behind each list's end.
func roomyTag(x api.Tag) api.Tag {
	x.Data, x.Range.Lo.At, x.Range.Hi.At = roomy(x.Data), roomy(x.Range.Lo.At), roomy(x.Range.Hi.At)
	kids := []api.Tag{}
	for _, kid := range x.Kids {
		kids = append(kids, roomyTag(kid))
	}
	x.Kids = append(kids, text(behind))[:len(kids)]
	return x
}

// wholeValue is a value field by field, with what stands behind its lists' ends.
func wholeValue(v api.Sexp) string {
	s := fmt.Sprintf("%v %v %q %q", v.List, v.Hinted, v.Hint[:cap(v.Hint)], v.Data[:cap(v.Data)])
	for _, kid := range v.Kids[:cap(v.Kids)] {
		s += "(" + wholeValue(kid) + ")"
	}
	return s
}

// wholeTag is a tag field by field, with what stands behind its lists' ends.
func wholeTag(x api.Tag) string {
	r := x.Range
	s := fmt.Sprintf("%d %q %d %v %v %q %v %v %q", x.Kind, x.Data[:cap(x.Data)], r.Order, r.Lo.Is, r.Lo.Open, r.Lo.At[:cap(r.Lo.At)], r.Hi.Is, r.Hi.Open, r.Hi.At[:cap(r.Hi.At)])
	for _, kid := range x.Kids[:cap(x.Kids)] {
		s += "(" + wholeTag(kid) + ")"
	}
	return s
}

// spoil writes over bytes, and the room behind them.
func spoil(b []byte) {
	for i := range b[:cap(b)] {
		b[:cap(b)][i] ^= 0x55
	}
}

// spoilValue writes over all memory of a value.
func spoilValue(v api.Sexp) {
	spoil(v.Hint)
	spoil(v.Data)
	kids := v.Kids[:cap(v.Kids)]
	for i := range kids {
		spoilValue(kids[i])
		kids[i] = atom("spoilt")
	}
}

// spoilTag writes over all memory of a tag.
func spoilTag(x api.Tag) {
	spoil(x.Data)
	spoil(x.Range.Lo.At)
	spoil(x.Range.Hi.At)
	kids := x.Kids[:cap(x.Kids)]
	for i := range kids {
		spoilTag(kids[i])
		kids[i] = text("spoilt")
	}
}

// few are tags of each kind, and some that may not be.
func few() []api.Tag {
	return []api.Tag{
		all(), text("a"), tags(), set(), prefix("pre"), span(api.Alpha, api.Bound{}, api.Bound{}), span(api.Numeric, end(true, "1"), end(false, "2")),
		tags(text("ftp"), prefix("/pub/"), all()), set(text("a"), text("a"), set(all()), tags(text("b"), span(api.Binary, end(false, "b"), end(true, "c")))),
		{}, {Kind: 9}, tags(text("*"), text("a")), tags(text("a"), api.Tag{}), span(api.Numeric, end(true, "x"), end(true, "y")), {Kind: api.TagAll, Data: []byte("a"), Kids: []api.Tag{all()}},
	}
}

// fewValues are those of tags, and some that are none's.
func fewValues() (out []api.Sexp) {
	for _, x := range few() {
		s, _ := wantForm(x)
		if v, _, e := sexp.Get([]byte(s)); e == api.OK {
			out = append(out, v)
		}
	}
	return append(out, words("* x"), words("* set a"), words("a * b"), list(atom("a"), words("* prefix")), hinted("h", "a"), list(atom("a"), hinted("h", "b")), words("* range numeric ge x"), api.Sexp{Data: []byte("a"), Kids: []api.Sexp{atom("b")}})
}

func TestArguments(t *testing.T) {
	for _, x := range few() {
		in, again := roomyTag(x), roomyTag(x)
		was := wholeTag(in)
		v, _ := tag.Put(in)
		tag.May(in)
		tag.Same(in, again)
		tag.Same(again, in)
		if wholeTag(in) != was || wholeTag(again) != was {
			t.Errorf("P0.3: a tag was changed, or what stands behind its lists: %s; was %s", wholeTag(in), was)
		}
		before := toldValue(v)
		spoilTag(in)
		if toldValue(v) != before {
			t.Errorf("P0.3: what Put answers of %s shares memory with that", was)
		}
	}
	for _, v := range fewValues() {
		in := roomyValue(v)
		was := wholeValue(in)
		x, _ := tag.Get(in)
		tag.Request(in)
		if wholeValue(in) != was {
			t.Errorf("P0.3: a value was changed, or what stands behind its lists: %s; was %s", wholeValue(in), was)
		}
		before := told(x)
		spoilValue(in)
		if told(x) != before {
			t.Errorf("P0.3: what Get answers of %s shares memory with that", was)
		}
	}
}

// TestAnswers holds that what is written into an answer, or behind its lists' ends, changes no other part of it, and no other answer.
func TestAnswers(t *testing.T) {
	for _, x := range few() {
		first, _ := tag.Put(x)
		second, _ := tag.Put(x)
		was := toldValue(second)
		for i := range first.Kids {
			spoilValue(first.Kids[i])
			first.Kids[i] = sexp.Clone(second.Kids[i])
			if toldValue(first) != was {
				t.Errorf("P0.3: parts of what Put answers of %s share memory", told(x))
			}
		}
		spoilValue(first)
		if third, _ := tag.Put(x); toldValue(third) != was || toldValue(second) != was {
			t.Errorf("P0.3: what Put answers of %s hangs on what was written into an answer", told(x))
		}
	}
	for _, v := range fewValues() {
		first, _ := tag.Get(v)
		second, _ := tag.Get(v)
		was := told(second)
		for i := range first.Kids {
			spoilTag(first.Kids[i])
			first.Kids[i] = roomyTag(second.Kids[i])
			if told(first) != was {
				t.Errorf("P0.3: parts of what Get answers of %s share memory", form(v))
			}
		}
		spoilTag(first)
		if third, _ := tag.Get(v); told(third) != was || told(second) != was {
			t.Errorf("P0.3: what Get answers of %s hangs on what was written into an answer", form(v))
		}
	}
}

// full is the same tag, where nil lists are empty ones.
func full(x api.Tag) api.Tag {
	for _, b := range []*[]byte{&x.Data, &x.Range.Lo.At, &x.Range.Hi.At} {
		if *b == nil {
			*b = []byte{}
		}
	}
	kids := []api.Tag{}
	for _, kid := range x.Kids {
		kids = append(kids, full(kid))
	}
	x.Kids = kids
	return x
}

// fullValue is the same value, where nil lists are empty ones.
func fullValue(v api.Sexp) api.Sexp {
	if v.Hint == nil {
		v.Hint = []byte{}
	}
	if v.Data == nil {
		v.Data = []byte{}
	}
	kids := []api.Sexp{}
	for _, kid := range v.Kids {
		kids = append(kids, fullValue(kid))
	}
	v.Kids = kids
	return v
}

func TestNilIsEmpty(t *testing.T) {
	empty := []byte{}
	for _, x := range append(few(), api.Tag{Kind: api.TagAtom}, api.Tag{Kind: api.TagPrefix}, span(api.Alpha, api.Bound{Is: true}, api.Bound{Is: true, Open: true}), span(api.Alpha, api.Bound{At: empty}, api.Bound{At: empty})) {
		a, e := tag.Put(x)
		b, f := tag.Put(full(x))
		if e != f || toldValue(a) != toldValue(b) || tag.May(x) != tag.May(full(x)) {
			t.Errorf("P0.4: Put of %s: %v; with empty lists: %v", told(x), e, f)
		}
		if !tag.Same(x, full(x)) || !tag.Same(full(x), x) {
			t.Errorf("P0.4: %s isn't the same with empty lists", told(x))
		}
	}
	for _, v := range append(fewValues(), api.Sexp{}, list(), list(atom("*"), atom("prefix"), api.Sexp{}), list(api.Sexp{}), list(list())) {
		a, e := tag.Get(v)
		b, f := tag.Get(fullValue(v))
		if e != f || told(a) != told(b) || tag.Request(v) != tag.Request(fullValue(v)) {
			t.Errorf("P0.4: Get of %s: %v; with empty lists: %v", form(v), e, f)
		}
	}
}

func TestAgain(t *testing.T) {
	ask := func() (out []string) {
		for _, x := range few() {
			v, e := tag.Put(x)
			out = append(out, fmt.Sprint(toldValue(v), e, tag.May(x), tag.Same(x, x), tag.Same(x, all())))
		}
		for _, v := range fewValues() {
			x, e := tag.Get(v)
			out = append(out, fmt.Sprint(told(x), e, tag.Request(v)))
		}
		return out
	}
	first := ask()
	for range 3 {
		if !slices.Equal(ask(), first) {
			t.Fatal("P0.5: the same calls answer otherwise")
		}
	}
}
