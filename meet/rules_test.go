package meet_test

import (
	"fmt"
	"slices"
	"testing"

	"greffier/api"
	"greffier/meet"
	"greffier/tag"
)

// behind stands in the room behind lists' ends.
const behind = "behind"

// roomy are bytes with others behind their end.
func roomy(b []byte) []byte { return append(slices.Clone(b), behind...)[:len(b)] }

// roomyTag is the same tag, with others behind each list's end.
func roomyTag(x api.Tag) api.Tag {
	x.Data, x.Range.Lo.At, x.Range.Hi.At = roomy(x.Data), roomy(x.Range.Lo.At), roomy(x.Range.Hi.At)
	kids := []api.Tag{}
	for _, kid := range x.Kids {
		kids = append(kids, roomyTag(kid))
	}
	x.Kids = append(kids, text(behind))[:len(kids)]
	return x
}

// roomyValue is the same value, with others behind each list's end.
func roomyValue(v api.Sexp) api.Sexp {
	v.Hint, v.Data = roomy(v.Hint), roomy(v.Data)
	kids := []api.Sexp{}
	for _, kid := range v.Kids {
		kids = append(kids, roomyValue(kid))
	}
	v.Kids = append(kids, atom(behind))[:len(kids)]
	return v
}

// wholeTag is a tag field by field, with what stands behind its lists' ends.
func wholeTag(x api.Tag) string {
	r := x.Range
	s := fmt.Sprintf("%d %q %d %v %v %q %v %v %q", x.Kind, x.Data[:cap(x.Data)], r.Order, r.Lo.Is, r.Lo.Open, r.Lo.At[:cap(r.Lo.At)], r.Hi.Is, r.Hi.Open, r.Hi.At[:cap(r.Hi.At)])
	for _, kid := range x.Kids[:cap(x.Kids)] {
		s += "(" + wholeTag(kid) + ")"
	}
	return s
}

// wholeValue is a value field by field, with what stands behind its lists' ends.
func wholeValue(v api.Sexp) string {
	s := fmt.Sprintf("%v %v %q %q", v.List, v.Hinted, v.Hint[:cap(v.Hint)], v.Data[:cap(v.Data)])
	for _, kid := range v.Kids[:cap(v.Kids)] {
		s += "(" + wholeValue(kid) + ")"
	}
	return s
}

// spoil writes over bytes, and the room behind them.
func spoil(b []byte) {
	for i := range b[:cap(b)] {
		b[:cap(b)][i] ^= 0x55
	}
}

// spoilTag writes over all memory of a tag.
func spoilTag(x api.Tag) {
	spoil(x.Data)
	spoil(x.Range.Lo.At)
	spoil(x.Range.Hi.At)
	kids := x.Kids[:cap(x.Kids)]
	for i := range kids {
		spoilTag(kids[i])
		kids[i] = text("spoilt")
	}
}

// some are tags of each kind, two of which meet in all ways; and some that may not be.
func some() (out []api.Tag) {
	for _, s := range []string{
		"(*)", "a", "ab", "()", "(* set)", "(* set a ab)", "(* set (*) (*))", "(* set (*) (*) a)", "(* prefix a)", "(* prefix ab)", "(* range alpha ge a)", "(* range alpha ge a le b)", "(* range alpha le b)", "(* range numeric ge \"1\")", "(* range numeric ge \"1.0\" l \"9\")", "(* set (* range numeric ge \"1\") (* range numeric g \"2\"))",
		"(a (* prefix b) (*))", "(a bc (d e))", "(a (*) (d) ((f)))", "((* set a b) (* set b (c)))", "(* set (a (* prefix b)) (a (*) (d)))", "((* set (*) (*)) (* set (*) (*)))", "((a b) (c d))",
	} {
		out = append(out, tagOf(s))
	}
	// Parts of what is handed in may share memory.
	end := api.Bound{Is: true, At: []byte("a")}
	one := api.Tag{Kind: api.TagRange, Range: api.Range{Order: api.Alpha, Lo: end, Hi: end}}
	kids := []api.Tag{one, one}
	out = append(out, one, tags(kids...), tags(tags(kids...), set(kids...), tags(kids...)))
	return append(out, api.Tag{}, api.Tag{Kind: 9}, tags(text("*"), all()), api.Tag{Kind: api.TagAll, Data: []byte("a"), Kids: []api.Tag{all()}}, api.Tag{Kind: api.TagSet, Data: []byte("a")})
}

// asked are values that are asked for; the last ones are no requests.
func asked() (out []api.Sexp) {
	for _, s := range []string{"a", "ab", "\"1\"", "()", "(a bc)", "(a bc (d e) f)", "(a b (d) ((f)) g)", "((a b c) (c d))", "(* set a)", "[h]a", "(a [h]b)"} {
		out = append(out, value(s))
	}
	return append(out, api.Sexp{Data: []byte("a"), Kids: []api.Sexp{atom("b")}})
}

func TestArguments(t *testing.T) {
	for _, a := range some() {
		for _, b := range some() {
			x, y := roomyTag(a), roomyTag(b)
			was, other := wholeTag(x), wholeTag(y)
			got, _ := meet.Meet(x, y)
			meet.Within(x, y)
			meet.Nothing(x)
			if wholeTag(x) != was || wholeTag(y) != other {
				t.Errorf("P0.3: a tag was changed, or what stands behind its lists, of %s and %s", told(a), told(b))
			}
			before := told(got)
			spoilTag(x)
			if told(got) != before {
				t.Errorf("P0.3: what Meet answers of %s and %s shares memory with the first one", told(a), told(b))
			}
			spoilTag(y)
			if told(got) != before {
				t.Errorf("P0.3: what Meet answers of %s and %s shares memory with the other one", told(a), told(b))
			}
		}
		for _, r := range asked() {
			x, v := roomyTag(a), roomyValue(r)
			was, other := wholeTag(x), wholeValue(v)
			meet.Allows(x, v)
			if wholeTag(x) != was || wholeValue(v) != other {
				t.Errorf("P0.3: Allows of %s changes what is handed in", told(a))
			}
		}
	}
	x := roomyTag(tagOf("(a (* set b c) (* range alpha ge x))"))
	was := wholeTag(x)
	if meet.Meet(x, x); wholeTag(x) != was {
		t.Error("P0.3: Meet of a tag and itself changes that")
	}
}

// partsOf are a tag, and all its parts, where they stand.
func partsOf(x *api.Tag) []*api.Tag {
	out := []*api.Tag{x}
	for i := range x.Kids {
		out = append(out, partsOf(&x.Kids[i])...)
	}
	return out
}

// TestAnswers holds that what is written into an answer, or behind its lists' ends, changes no other part of it, and no other answer.
func TestAnswers(t *testing.T) {
	for _, a := range some() {
		for _, b := range some() {
			first, _ := meet.Meet(a, b)
			second, _ := meet.Meet(a, b)
			was := told(second)
			for i := range first.Kids {
				spoilTag(first.Kids[i])
				first.Kids[i] = roomyTag(second.Kids[i])
				if told(first) != was {
					t.Errorf("P0.3: parts of what Meet answers of %s and %s share memory", told(a), told(b))
				}
			}
			for _, part := range partsOf(&first) {
				lower := string(part.Range.Lo.At)
				spoil(part.Range.Hi.At)
				if string(part.Range.Lo.At) != lower {
					t.Errorf("P0.3: ends of what Meet answers of %s and %s share memory", told(a), told(b))
				}
			}
			spoilTag(first)
			if third, _ := meet.Meet(a, b); told(third) != was || told(second) != was {
				t.Errorf("P0.3: what Meet answers of %s and %s hangs on what was written into an answer", told(a), told(b))
			}
		}
	}
}

// full is the same tag, where nil lists are empty ones.
func full(x api.Tag) api.Tag {
	for _, b := range []*[]byte{&x.Data, &x.Range.Lo.At, &x.Range.Hi.At} {
		if *b == nil {
			*b = []byte{}
		}
	}
	kids := []api.Tag{}
	for _, kid := range x.Kids {
		kids = append(kids, full(kid))
	}
	x.Kids = kids
	return x
}

// fullValue is the same value, where nil lists are empty ones.
func fullValue(v api.Sexp) api.Sexp {
	if v.Hint == nil {
		v.Hint = []byte{}
	}
	if v.Data == nil {
		v.Data = []byte{}
	}
	kids := []api.Sexp{}
	for _, kid := range v.Kids {
		kids = append(kids, fullValue(kid))
	}
	v.Kids = kids
	return v
}

func TestNilIsEmpty(t *testing.T) {
	l := append(some(), api.Tag{Kind: api.TagAtom}, api.Tag{Kind: api.TagPrefix}, api.Tag{Kind: api.TagRange, Range: api.Range{Order: api.Alpha, Lo: api.Bound{Is: true}, Hi: api.Bound{Is: true}}})
	for _, a := range l {
		if meet.Nothing(a) != meet.Nothing(full(a)) {
			t.Errorf("P0.4: Nothing of %s answers otherwise with empty lists", told(a))
		}
		for _, b := range l {
			got, e := meet.Meet(a, b)
			again, f := meet.Meet(full(a), full(b))
			if e != f || told(got) != told(again) || meet.Within(a, b) != meet.Within(full(a), full(b)) {
				t.Errorf("P0.4: Meet, or Within, of %s and %s answers otherwise with empty lists", told(a), told(b))
			}
		}
		for _, r := range append(asked(), api.Sexp{}, list(), list(api.Sexp{}), list(list())) {
			if meet.Allows(a, r) != meet.Allows(full(a), fullValue(r)) {
				t.Errorf("P0.4: Allows of %s and %s answers otherwise with empty lists", told(a), textOf(r))
			}
		}
	}
}

func TestAgain(t *testing.T) {
	ask := func() (out []string) {
		for _, a := range some() {
			for _, b := range some() {
				x, e := meet.Meet(a, b)
				out = append(out, fmt.Sprint(told(x), e, meet.Within(a, b), meet.Nothing(x), tag.May(x)))
			}
			for _, r := range asked() {
				out = append(out, fmt.Sprint(meet.Allows(a, r)))
			}
		}
		a, b := pairs(20001)
		_, e := meet.Meet(a, b)
		return append(out, fmt.Sprint(e))
	}
	first := ask()
	for range 3 {
		if !slices.Equal(ask(), first) {
			t.Fatal("P0.5: the same calls answer otherwise")
		}
	}
}
