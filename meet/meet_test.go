package meet_test

import (
	"math/rand"
	"slices"
	"strconv"
	"strings"
	"testing"

	"greffier/api"
	"greffier/meet"
	"greffier/sexp"
	"greffier/tag"
)

// checkMeet holds two tags that may be against their meeting, and against what requests are allowed.
func checkMeet(t *testing.T, a, b api.Sexp, requests []api.Sexp) {
	t.Helper()
	x, _ := tag.Get(a)
	y, _ := tag.Get(b)
	want := wantMeet(a, b)
	got, e := meet.Meet(x, y)
	if want.long || want.pairs > api.MaxMeets {
		if e != api.ErrLong || told(got) != told(api.Tag{}) {
			t.Errorf("P13.1: Meet of %.200s and %.200s: %v, %.200s; want ErrLong", textOf(a), textOf(b), e, told(got))
		}
		return
	}
	if e != api.OK || !tag.May(got) {
		t.Errorf("P13.1: Meet of %.200s and %.200s: %v; want %.200s", textOf(a), textOf(b), e, textOf(want.v))
		return
	}
	if v := valueOf(got); !sexp.Same(v, want.v) {
		t.Errorf("P13.1: Meet of %.200s and %.200s: %.200s; want %.200s", textOf(a), textOf(b), textOf(v), textOf(want.v))
	}
	if meet.Nothing(got) != isNone(want.v) {
		t.Errorf("P13.1: Nothing of the meeting of %.200s and %.200s: %v", textOf(a), textOf(b), meet.Nothing(got))
	}
	for _, r := range requests {
		both, of := meet.Allows(x, r) && meet.Allows(y, r), meet.Allows(got, r)
		if of && !both || both && !of && !want.mixed {
			t.Errorf("P13.2: of %s the meeting of %.200s and %.200s answers %v; both: %v", textOf(r), textOf(a), textOf(b), of, both)
		}
	}
}

// checkAllows holds whether a tag that may be allows a request.
func checkAllows(t *testing.T, v, request api.Sexp) {
	t.Helper()
	x, _ := tag.Get(v)
	if got, want := meet.Allows(x, request), wantAllows(v, request); got != want {
		t.Errorf("P13.1: Allows of %.200s and %.200s: %v; want %v", textOf(v), textOf(request), got, want)
	}
}

// checkWithin holds whether a tag is within another one, and that what it allows then is allowed by that, too.
func checkWithin(t *testing.T, a, b api.Sexp, requests []api.Sexp) {
	t.Helper()
	x, _ := tag.Get(a)
	y, _ := tag.Get(b)
	got, want := meet.Within(x, y), wantWithin(a, b)
	if got != want {
		t.Errorf("P13.1: Within of %.200s and %.200s: %v; want %v", textOf(a), textOf(b), got, want)
	}
	for _, r := range requests {
		if got && meet.Allows(x, r) && !meet.Allows(y, r) {
			t.Errorf("P13.3: %.200s is within %.200s, and allows %s, which that doesn't", textOf(a), textOf(b), textOf(r))
		}
	}
}

// few are values of tags of each kind, and of each in each.
func few() (out []api.Sexp) {
	parts := []string{
		"(*)", "a", "ab", "\"\"", "\"*\"", "\"1\"", "nan", "()", "(a)", "(a b)", "(* set)", "(* set a)", "(* set a b)", "(* set \"*\" b)",
		"(* prefix \"\")", "(* prefix a)", "(* prefix ab)", "(* prefix \"*\")", "(* range alpha)", "(* range alpha ge a le ab)", "(* range alpha g a)", "(* range alpha l a)", "(* range numeric)",
		"(* range numeric ge \"1\")", "(* range numeric ge \"1.0\" le \"2\")", "(* range numeric g \"1.00\" l \"3\")", "(* range numeric g \"2\" l \"1\")", "(* range numeric le \"1\")", "(* range binary ge a)", "(* range binary le |AGE=|)",
		"(* range time ge \"01:00:00\")", "(* range time l \"02:00:00\")", "(* range date g \"2024-02-29_00:00:00\")",
	}
	l := slices.Clone(parts)
	for _, s := range parts {
		if s != "\"*\"" {
			l = append(l, "("+s+")", "("+s+" c)", "(("+s+"))")
		}
		l = append(l, "(a "+s+")", "(* set "+s+")", "(* set "+s+" a)", "(* set (c "+s+") "+s+")", "((* set "+s+"))")
	}
	l = append(l, "((*) b)", "(* set (*) (*))", "(* set (* set) (*))", "(* set (* set a b) (* set (* set c)))", "(* set (* prefix a) (* range alpha ge a) (a))", "((* set a b) (* set b c))", "((* set a b) (* set b c) (* set))", "(* set (a (*)) ((*) b))", "(* set ((* prefix a) x) (a))")
	for _, s := range l {
		out = append(out, value(s))
	}
	return out
}

// requests are some.
func requests() (out []api.Sexp) {
	atoms := []string{"\"\"", "\"*\"", "a", "ab", "abc", "b", "c", "\"*a\"", "\"0\"", "\"1\"", "\"1.0\"", "\"2\"", "\"2.5\"", "\"3\"", "nan", "inf", "\"01:00:00\"", "\"01:30:00\"", "\"02:00:00\"", "\"2024-02-29_00:00:00\"", "\"2024-03-01_00:00:00\"", "|AGE=|"}
	for _, s := range atoms {
		out = append(out, value(s), value("(a "+s+")"), value("(b "+s+" c)"), value("(c "+s+")"))
		if s != "\"*\"" {
			out = append(out, value("("+s+")"), value("("+s+" c)"), value("(("+s+"))"), value("("+s+" b)"))
		}
	}
	return append(out, value("()"), value("(())"), value("((a b) c)"), value("((a c) c)"), value("(a b a)"), value("(a (a b))"), value("(b c)"), value("(a b c d)"))
}

func TestAllowsOfFew(t *testing.T) {
	for _, x := range []struct {
		t, request string
		want       bool
	}{
		{"(*)", "a", true}, {"(*)", "()", true}, {"(*)", "(a (b))", true}, {"(*)", "\"*\"", true},
		{"a", "a", true}, {"a", "b", false}, {"a", "ab", false}, {"ab", "a", false}, {"a", "(a)", false}, {"a", "()", false}, {"\"\"", "\"\"", true}, {"\"\"", "()", false}, {"\"\"", "a", false}, {"\"1\"", "\"1.0\"", false}, {"\"*\"", "\"*\"", true},
		{"(* prefix a)", "a", true}, {"(* prefix a)", "ab", true}, {"(* prefix ab)", "a", false}, {"(* prefix a)", "ba", false}, {"(* prefix a)", "(a)", false}, {"(* prefix \"\")", "\"\"", true}, {"(* prefix \"\")", "b", true}, {"(* prefix \"\")", "()", false},
		{"(* range numeric ge \"2\")", "\"2.0\"", true}, {"(* range numeric ge \"2\")", "inf", true}, {"(* range numeric ge \"2\")", "nan", false}, {"(* range numeric g \"2\")", "\"2.0\"", false}, {"(* range numeric ge \"2\")", "(\"2\")", false}, {"(* range numeric)", "x", false}, {"(* range alpha)", "x", true}, {"(* range alpha)", "\"\"", true}, {"(* range alpha)", "()", false}, {"(* range alpha g b l a)", "ab", false},
		{"(* set)", "a", false}, {"(* set)", "()", false}, {"(* set a b)", "a", true}, {"(* set a b)", "b", true}, {"(* set a b)", "c", false}, {"(* set (* set (* set b)))", "b", true}, {"(* set b (ftp (*)))", "(ftp a)", true}, {"(* set a (b))", "(a)", false},
		{"()", "()", true}, {"()", "(a b)", true}, {"()", "a", false}, {"()", "\"\"", false}, {"(ftp)", "(ftp host)", true}, {"(ftp)", "(ftp)", true}, {"(ftp)", "ftp", false}, {"(ftp host)", "(ftp)", false}, {"(ftp)", "(host ftp)", false}, {"(ftp)", "()", false},
		{"(a b)", "(a b)", true}, {"(a b)", "(b a)", false}, {"(a b)", "(a c)", false}, {"(a b)", "(c b)", false}, {"(a b)", "(a b c)", true}, {"((a))", "((a b) c)", true}, {"((a))", "(a)", false}, {"(a (*))", "(a)", false}, {"(a (*))", "(a (b c))", true}, {"(a (* set))", "(a b)", false}, {"(a (* set))", "(a)", false}, {"(a (* prefix b) (* set c (d)))", "(a bc (d e) f)", true}, {"(a (* prefix b) (* set c (d)))", "(a bc d)", false},
	} {
		if got := meet.Allows(tagOf(x.t), value(x.request)); got != x.want {
			t.Errorf("P13.1: Allows of %s and %s: %v; want %v", x.t, x.request, got, x.want)
		}
		checkAllows(t, value(x.t), value(x.request))
	}
}

func TestAllowsOfEvery(t *testing.T) {
	l := requests()
	for _, v := range few() {
		for _, r := range l {
			checkAllows(t, v, r)
		}
	}
}

// within is a tag in so many others.
func within(n int, x api.Tag, in func(...api.Tag) api.Tag) api.Tag {
	for range n {
		x = in(x)
	}
	return x
}

func tags(l ...api.Tag) api.Tag { return api.Tag{Kind: api.TagList, Kids: l} }

func set(l ...api.Tag) api.Tag { return api.Tag{Kind: api.TagSet, Kids: l} }

func all() api.Tag { return api.Tag{Kind: api.TagAll} }

func text(s string) api.Tag { return api.Tag{Kind: api.TagAtom, Data: []byte(s)} }

// itself is a tag that holds itself, over and over.
func itself(kind uint8) api.Tag {
	kids := make([]api.Tag, 3)
	x := api.Tag{Kind: kind, Kids: kids}
	for i := range kids {
		kids[i] = x
	}
	return x
}

// nones are tags that may not be, though they would allow much if that weren't asked.
func nones() []api.Tag {
	atom, some := []byte("a"), []api.Tag{all()}
	end := api.Bound{Is: true, At: atom}
	bad := api.Tag{Kind: api.TagAll, Data: atom}
	return []api.Tag{
		{}, {Kind: 7}, {Kind: 255}, bad, {Kind: api.TagAll, Kids: some}, {Kind: api.TagAll, Range: api.Range{Order: api.Alpha}}, {Kind: api.TagAtom, Data: atom, Kids: some}, {Kind: api.TagPrefix, Kids: some}, {Kind: api.TagPrefix, Range: api.Range{Lo: end}},
		{Kind: api.TagRange}, {Kind: api.TagRange, Range: api.Range{Order: 9}}, {Kind: api.TagRange, Range: api.Range{Order: api.Numeric, Lo: end}}, {Kind: api.TagRange, Range: api.Range{Order: api.Alpha, Hi: api.Bound{Open: true}}}, {Kind: api.TagRange, Data: atom, Range: api.Range{Order: api.Alpha}},
		{Kind: api.TagSet, Data: atom}, {Kind: api.TagSet, Data: atom, Kids: some}, {Kind: api.TagList, Data: atom}, {Kind: api.TagList, Range: api.Range{Order: api.Alpha}, Kids: some},
		tags(text("*")), tags(text("*"), all()), set(all(), tags(text("*"))), set(text("a"), bad), set(all(), api.Tag{}), tags(bad), tags(all(), bad), tags(set(text("a"), bad)),
		text(strings.Repeat("a", 4097)), set(all(), text(strings.Repeat("a", 4090))), tags(slices.Repeat([]api.Tag{all()}, 256)...), set(slices.Repeat([]api.Tag{all()}, 255)...), within(17, text("a"), set), within(17, all(), tags), set(all(), within(16, text("a"), tags)),
		itself(api.TagSet), itself(api.TagList), set(all(), itself(api.TagSet)),
	}
}

// noRequests are values that are no requests.
func noRequests() []api.Sexp {
	hinted := api.Sexp{Hinted: true, Data: []byte("a")}
	kids := make([]api.Sexp, 2)
	in := list(kids...)
	kids[0], kids[1] = in, in
	deep := list()
	for range 16 {
		deep = list(deep)
	}
	return []api.Sexp{
		hinted, list(hinted), list(atom("a"), hinted), value("(*)"), value("(a (*))"), value("((*))"), value("(* set a)"), value("(* a)"), value("(a (b (* prefix c)))"),
		{Hint: []byte("h"), Data: []byte("a")}, {Data: []byte("a"), Kids: []api.Sexp{atom("b")}}, {List: true, Data: []byte("a")}, {List: true, Hinted: true}, list(atom("a"), api.Sexp{Data: []byte("b"), Hint: []byte("h")}),
		atom(strings.Repeat("a", 4093)), list(slices.Repeat([]api.Sexp{atom("")}, 512)...), deep, in,
	}
}

func TestAllowsOfNone(t *testing.T) {
	for i, x := range nones() {
		for _, s := range []string{"a", "\"*\"", "()", "(a)", "(a b c)", "\"\"", "((a))"} {
			if meet.Allows(x, value(s)) {
				t.Errorf("P13.1: Allows of tag %d that may not be, and %s: true", i, s)
			}
		}
		for _, r := range noRequests() {
			if meet.Allows(x, r) {
				t.Errorf("P13.1: Allows of tag %d that may not be, and of no request: true", i)
			}
		}
	}
	for i, r := range noRequests() {
		for _, s := range []string{"(*)", "a", "b", "\"*\"", "(* prefix \"\")", "(* range alpha)", "()", "((*))", "(a)", "(a (*))", "(* set a (*))", "(())", "(* set)"} {
			if meet.Allows(tagOf(s), r) {
				t.Errorf("P13.1: Allows of %s and value %d that is no request: true", s, i)
			}
		}
	}
	if !meet.Allows(all(), atom(strings.Repeat("a", 4091))) || !meet.Allows(all(), list(slices.Repeat([]api.Sexp{atom("")}, 511)...)) {
		t.Error("P13.1: Allows of a request at the limits: false")
	}
}

func TestNothing(t *testing.T) {
	for i, x := range append(nones(), set(), set(set()), set(all()), tags(), tags(set()), all(), text(""), api.Tag{Kind: api.TagPrefix}, tagOf("(* range alpha g b l a)")) {
		if got, want := meet.Nothing(x), x.Kind == api.TagSet && len(x.Kids) == 0; got != want {
			t.Errorf("P13.1: Nothing of tag %d: %v; want %v", i, got, want)
		}
	}
	if !meet.Nothing(set([]api.Tag{}...)) || !meet.Nothing(api.Tag{Kind: api.TagSet, Kids: []api.Tag{}}) {
		t.Error("P13.1: Nothing of an empty set: false")
	}
}

func TestMeetOfFew(t *testing.T) {
	for _, x := range [][3]string{
		// TagAll and another one
		{"(*)", "(*)", "(*)"}, {"(*)", "a", "a"}, {"a", "(*)", "a"}, {"(*)", "(* set)", "(* set)"}, {"(* set)", "(*)", "(* set)"},
		{"(*)", "(* set a)", "(* set a)"}, {"(* set a)", "(*)", "(* set a)"}, {"(*)", "(* set (* set) (* set a))", "(* set (* set) (* set a))"}, {"(*)", "(a (* set))", "(a (* set))"}, {"(*)", "(* range alpha g b l a)", "(* range alpha g b l a)"},
		// sets
		{"(* set a b)", "b", "b"}, {"b", "(* set a b)", "b"}, {"c", "(* set a b)", "(* set)"}, {"(* set)", "a", "(* set)"}, {"(* set)", "(* set)", "(* set)"}, {"(* set a)", "a", "a"}, {"(* set a a)", "a", "(* set a a)"}, {"a", "(* set a a)", "(* set a a)"},
		{"(* set a b)", "(* set b a)", "(* set a b)"}, {"(* set b a)", "(* set a b)", "(* set b a)"}, {"(* set a b c)", "(* set c d a)", "(* set a c)"},
		{"(* set (* prefix a) (* prefix b))", "(* set bx ax by ay)", "(* set ax ay bx by)"}, {"(* set bx ax by ay)", "(* set (* prefix a) (* prefix b))", "(* set bx ax by ay)"}, {"(* set a (* prefix a))", "(* set a ab)", "(* set a a ab)"},
		{"(* set (* set a b) (* set (* set c)))", "(* prefix \"\")", "(* set a b c)"}, {"(* prefix \"\")", "(* set (* set a b) (* set (* set c)))", "(* set a b c)"}, {"(* set (* set a b) c)", "(* set (* set c b) a)", "(* set b a c)"},
		{"(* set (*))", "(* set (* set a) b)", "(* set a b)"}, {"(* set (*) (*))", "(* set (* set a) b)", "(* set a b a b)"}, {"(* set (*))", "(* set (* set (* set a)) b)", "(* set (* set a) b)"}, {"(* set (*))", "(* set (* set (* set a)))", "(* set a)"}, {"(* set (*))", "(* set (* set (* set)))", "(* set)"}, {"(* set (*) c)", "(* set (* set (* set)) c)", "(* set (* set) c c)"}, {"(* set (*) (a))", "(a b)", "(* set (a b) (a b))"},
		{"(* set (a) (b))", "(a)", "(a)"}, {"((* set a b))", "(a)", "(a)"}, {"((* set a b))", "((* set b c a))", "((* set a b))"},
		// lists
		{"()", "()", "()"}, {"()", "(a)", "(a)"}, {"(a)", "()", "(a)"}, {"(ftp a)", "(ftp a b)", "(ftp a b)"}, {"(ftp a b)", "(ftp a)", "(ftp a b)"}, {"(a)", "(b)", "(* set)"}, {"(a b)", "(a c)", "(* set)"}, {"(a b c)", "(a b d)", "(* set)"}, {"(a)", "(b c)", "(* set)"}, {"((a))", "((a b) c)", "((a b) c)"}, {"((a b))", "((a) c)", "((a b) c)"}, {"((a))", "((b))", "(* set)"}, {"((*))", "((* set))", "(* set)"},
		{"(a (*) (* prefix c))", "((*) b)", "(a b (* prefix c))"}, {"(ftp (* prefix a))", "(ftp (* set ab b))", "(ftp ab)"}, {"(ftp (* set a b))", "(ftp (* set b c a))", "(ftp (* set a b))"},
		// a list at one place of which there is nothing
		{"(a)", "(a (* set))", "(* set)"}, {"(a (* set))", "(a)", "(* set)"}, {"()", "((* set) a)", "(* set)"}, {"((* set a))", "((* set b) c)", "(* set)"}, {"(a)", "(a ((* set)))", "(a ((* set)))"}, {"(a)", "(a (* set (* set)))", "(a (* set (* set)))"}, {"(* set (a) b)", "(* set (a (* set)) b)", "b"},
		// atoms
		{"a", "a", "a"}, {"a", "b", "(* set)"}, {"\"\"", "\"\"", "\"\""}, {"ab", "(* prefix a)", "ab"}, {"(* prefix a)", "ab", "ab"}, {"a", "(* prefix ab)", "(* set)"}, {"(* prefix ab)", "a", "(* set)"}, {"a", "(a)", "(* set)"}, {"()", "\"\"", "(* set)"}, {"\"*\"", "(* prefix \"\")", "*"},
		{"\"1.0\"", "(* range numeric le \"1\")", "\"1.0\""}, {"(* range numeric le \"1\")", "\"1.0\"", "\"1.0\""}, {"nan", "(* range numeric)", "(* set)"}, {"(* range numeric)", "nan", "(* set)"}, {"\"2\"", "(* range numeric le \"1\")", "(* set)"}, {"\"1\"", "\"1.0\"", "(* set)"},
		// prefixes
		{"(* prefix ab)", "(* prefix abc)", "(* prefix abc)"}, {"(* prefix abc)", "(* prefix ab)", "(* prefix abc)"}, {"(* prefix a)", "(* prefix b)", "(* set)"}, {"(* prefix a)", "(* prefix ba)", "(* set)"}, {"(* prefix \"\")", "(* prefix a)", "(* prefix a)"}, {"(* prefix a)", "(* prefix a)", "(* prefix a)"}, {"(* prefix a)", "()", "(* set)"},
		{"(* prefix \"\")", "(* range alpha)", "(* set)"}, {"(* range alpha)", "(* prefix \"\")", "(* set)"}, {"(* prefix a)", "(* set (* range alpha) ab)", "ab"},
		// ranges
		{"(* range alpha)", "(* range alpha)", "(* range alpha)"}, {"(* range alpha)", "(* range binary)", "(* set)"}, {"(* range numeric)", "(* range alpha ge \"1\" le \"1\")", "(* set)"}, {"(* range numeric ge \"1\" le \"5\")", "(* range numeric g \"1\" le \"9\")", "(* range numeric g \"1\" le \"5\")"},
		{"(* range numeric ge \"5\")", "(* range numeric l \"5\")", "(* set)"}, {"(* range numeric ge \"5\")", "(* range numeric le \"5.0\")", "(* range numeric ge \"5\" le \"5.0\")"}, {"(* range numeric le \"5.0\")", "(* range numeric ge \"5\")", "(* range numeric ge \"5\" le \"5.0\")"}, {"(* range numeric g \"2\" l \"1\")", "(* range numeric)", "(* set)"}, {"(* range numeric g \"2\" l \"1\")", "(* range numeric g \"2\" l \"1\")", "(* set)"},
		{"(* range alpha ge b)", "(* range alpha l c)", "(* range alpha ge b l c)"}, {"(* range alpha ge c)", "(* range alpha l b)", "(* set)"}, {"(* range time ge \"01:00:00\")", "(* range date ge \"2024-02-29_00:00:00\")", "(* set)"}, {"(* range alpha)", "()", "(* set)"},
		// of ends that stand the same the first one's stays
		{"(* range numeric ge \"1\" le \"9.0\")", "(* range numeric ge \"1.0\" le \"9\")", "(* range numeric ge \"1\" le \"9.0\")"}, {"(* range numeric ge \"1.0\" le \"9\")", "(* range numeric ge \"1\" le \"9.0\")", "(* range numeric ge \"1.0\" le \"9\")"}, {"(* range numeric g \"1\")", "(* range numeric g \"1.0\")", "(* range numeric g \"1\")"}, {"(* range numeric ge \"1\")", "(* range numeric g \"1.0\")", "(* range numeric g \"1.0\")"}, {"(* range numeric ge \"1\" l \"9.0\")", "(* range numeric ge \"1.0\" le \"9\")", "(* range numeric ge \"1\" l \"9.0\")"},
		{"(* set (* range numeric ge \"1\"))", "(* range numeric ge \"1.0\")", "(* range numeric ge \"1\")"}, {"(* range numeric ge \"1.0\")", "(* set (* range numeric ge \"1\"))", "(* range numeric ge \"1.0\")"}, {"(* set (* range numeric ge \"1.0\"))", "(* set (* range numeric ge \"1\"))", "(* range numeric ge \"1.0\")"}, {"(* range numeric ge \"1.0\")", "(* set (* set (* range numeric ge \"1\")))", "(* range numeric ge \"1.0\")"},
		{"((* range numeric ge \"1\"))", "((* range numeric ge \"1.0\"))", "((* range numeric ge \"1\"))"}, {"((* range numeric ge \"1\"))", "((* range numeric ge \"1.0\") x)", "((* range numeric ge \"1.0\") x)"}, {"((* range numeric ge \"1\") x)", "((* range numeric ge \"1.0\"))", "((* range numeric ge \"1\") x)"},
		{"(((* range numeric ge \"1\")))", "(((* range numeric ge \"1.0\")) x)", "(((* range numeric ge \"1.0\")) x)"}, {"(((* range numeric ge \"1\") x))", "(((* range numeric ge \"1.0\")) x)", "(((* range numeric ge \"1\") x) x)"}, {"(((* range numeric ge \"1\") x) (* range numeric ge \"2\"))", "(((* range numeric ge \"1.0\")) (* range numeric ge \"2.0\") x)", "(((* range numeric ge \"1\") x) (* range numeric ge \"2.0\") x)"},
		{"(* set ((* range numeric ge \"1\")))", "((* range numeric ge \"1.0\") x)", "((* range numeric ge \"1.0\") x)"}, {"((* set (* range numeric ge \"1\")))", "((* range numeric ge \"1.0\") x)", "((* range numeric ge \"1.0\") x)"}, {"((* set (* range numeric ge \"1\") (* range numeric ge \"3\")))", "((* set (* range numeric ge \"3.0\") (* range numeric ge \"1.0\")) x)", "((* set (* range numeric ge \"3.0\") (* range numeric ge \"3.0\") (* range numeric ge \"1.0\") (* range numeric ge \"3\")) x)"},
	} {
		got, e := meet.Meet(tagOf(x[0]), tagOf(x[1]))
		v, _ := tag.Put(got)
		if e != api.OK || textOf(v) != x[2] {
			t.Errorf("P13.1: Meet of %s and %s: %v, %s; want %s", x[0], x[1], e, textOf(v), x[2])
		}
		checkMeet(t, value(x[0]), value(x[1]), requests())
	}
}

// someOf are a few of some requests, others at each turn.
func someOf(l []api.Sexp, turn int) (out []api.Sexp) {
	for i := range 6 {
		out = append(out, l[(turn*7+i*37)%len(l)])
	}
	return out
}

func TestMeetOfEveryTwo(t *testing.T) {
	l := requests()
	for i, a := range few() {
		for k, b := range few() {
			checkMeet(t, a, b, someOf(l, i+k))
		}
	}
}

func TestWithinOfFew(t *testing.T) {
	for _, x := range []struct {
		a, b string
		want bool
	}{
		{"(*)", "(*)", true}, {"a", "(*)", true}, {"(a)", "(*)", true}, {"(* set)", "(*)", true}, {"(* prefix a)", "(*)", true}, {"(* range alpha)", "(*)", true}, {"(*)", "a", false}, {"(*)", "(* prefix \"\")", false}, {"(*)", "()", false}, {"(*)", "(* set)", false}, {"(*)", "(* set a (*))", true}, {"(*)", "(* set () (* prefix \"\"))", false},
		{"(* set)", "a", true}, {"(* set)", "(* set)", true}, {"(* set)", "(a)", true}, {"(* set a a)", "a", true}, {"(* set a b)", "a", false}, {"(* set b a)", "a", false}, {"(* set ab ac)", "(* prefix a)", true}, {"(* set ab c)", "(* prefix a)", false}, {"(* set (* set a) a)", "a", true}, {"(* set (* set a) b)", "a", false},
		{"a", "(* set)", false}, {"a", "(* set b a)", true}, {"a", "(* set b c)", false}, {"ab", "(* set b (* set (* prefix a)))", true}, {"(a b)", "(* set b (a))", true}, {"(* set a b)", "(* set b c a)", true}, {"(* set a d)", "(* set b c a)", false}, {"(* set ab (b c))", "(* set (b) (* prefix a))", true}, {"(* prefix a)", "(* set a ab)", false}, {"(* set (* set b) a)", "(* set (* set a b) c)", true}, {"(* set a b)", "(* set (* set a) (* set b))", true},
		{"()", "()", true}, {"(a)", "()", true}, {"()", "(a)", false}, {"(a b c)", "(a (* prefix b))", true}, {"(a b)", "(a b c)", false}, {"(a)", "(a b)", false}, {"(a b)", "(b a)", false}, {"(a b)", "(c b)", false}, {"(a c)", "(a b)", false}, {"((a b))", "((a))", true}, {"((a))", "((a b))", false}, {"(a)", "((a))", false}, {"((* set a b))", "((* set b a c))", true}, {"((*))", "((* set))", false}, {"((* set))", "(a)", true}, {"((a) (*))", "((*))", true},
		{"(* prefix ab)", "(* prefix a)", true}, {"(* prefix a)", "(* prefix a)", true}, {"(* prefix a)", "(* prefix ab)", false}, {"(* prefix ab)", "(* prefix b)", false}, {"(* prefix a)", "(* prefix \"\")", true}, {"(* prefix a)", "a", false}, {"(* prefix a)", "(* range alpha)", false}, {"(* range alpha)", "(* prefix \"\")", false}, {"(* prefix a)", "()", false},
		{"(* range numeric ge \"2\" le \"3\")", "(* range numeric ge \"1\")", true}, {"(* range numeric ge \"2\")", "(* range numeric ge \"2.0\")", true}, {"(* range numeric ge \"2\")", "(* range numeric g \"2\")", false}, {"(* range numeric g \"2\")", "(* range numeric ge \"2\")", true}, {"(* range numeric ge \"2\")", "(* range numeric ge \"2\" le \"9\")", false}, {"(* range numeric g \"2\" l \"2\")", "(* range numeric ge \"7\")", true}, {"(* range numeric g \"2\" l \"2\")", "(* range alpha)", false}, {"(* range numeric g \"2\" l \"2\")", "a", false}, {"(* range alpha)", "(* range alpha)", true}, {"(* range numeric)", "(* range alpha)", false}, {"(* range numeric ge \"2\" le \"2\")", "\"2\"", false},
		{"a", "a", true}, {"a", "b", false}, {"a", "(a)", false}, {"(a)", "a", false}, {"\"\"", "()", false}, {"()", "\"\"", false}, {"ab", "(* prefix a)", true}, {"a", "(* prefix ab)", false}, {"\"2.0\"", "(* range numeric le \"2\")", true}, {"\"3\"", "(* range numeric le \"2\")", false}, {"nan", "(* range numeric)", false}, {"nan", "(* range alpha)", true}, {"\"*\"", "(* prefix \"*\")", true}, {"\"*\"", "(*)", true}, {"\"*\"", "\"*\"", true},
	} {
		if got := meet.Within(tagOf(x.a), tagOf(x.b)); got != x.want {
			t.Errorf("P13.1: Within of %s and %s: %v; want %v", x.a, x.b, got, x.want)
		}
		checkWithin(t, value(x.a), value(x.b), requests())
	}
}

func TestWithinOfEveryTwo(t *testing.T) {
	l := requests()
	for i, a := range few() {
		for k, b := range few() {
			checkWithin(t, a, b, someOf(l, i+k))
		}
	}
}

// someTag is the value of a random tag.
func someTag(source *rand.Rand, deep int) api.Sexp {
	one := func(l ...string) string { return l[source.Intn(len(l))] }
	kind := source.Intn(8)
	if deep == 0 {
		kind %= 4
	}
	out := list()
	switch kind {
	case 0:
		return atom(one("a", "ab", "b", "1", "1.0", "2", "*", ""))
	case 1:
		return value("(* prefix " + one("a", "ab", "\"1\"", "\"*\"", "\"\"") + ")")
	case 2:
		return value("(* range " + one("numeric", "alpha") + one("", " ge \"1\"", " g \"1.0\"", " ge \"1.0\"") + one("", " le \"2\"", " l \"2.0\"", " le \"2.0\"") + ")")
	case 3:
		return value(one("(*)", "(*)", "(* set)", "()"))
	case 4, 5:
		out = value("(* set)")
	}
	for range source.Intn(4) {
		kid := someTag(source, deep-1)
		if len(out.Kids) == 0 && string(kid.Data) == "*" {
			kid = atom("**")
		}
		out.Kids = append(out.Kids, kid)
	}
	return out
}

// someRequest is a random one, mostly one that a tag allows.
func someRequest(source *rand.Rand, v api.Sexp) api.Sexp {
	texts := []string{"", "a", "ab", "abc", "b", "1", "1.0", "1.5", "2", "2.0", "3", "x", "**"}
	some := atom(texts[source.Intn(len(texts))])
	switch kindOf(v) {
	case "atom":
		return v
	case "prefix":
		return atom(string(v.Kids[2].Data) + string(some.Data))
	case "all":
		if source.Intn(2) == 0 {
			return list(some)
		}
	case "set":
		if len(v.Kids) > 2 {
			return someRequest(source, v.Kids[2+source.Intn(len(v.Kids)-2)])
		}
	case "list":
		out := list()
		for _, kid := range v.Kids {
			out.Kids = append(out.Kids, someRequest(source, kid))
		}
		if source.Intn(2) == 0 {
			out.Kids = append(out.Kids, some)
		}
		return out
	}
	return some
}

func TestOfSome(t *testing.T) {
	source := rand.New(rand.NewSource(13))
	there, in := 0, 0
	for range 12000 {
		a, b := someTag(source, 4), someTag(source, 4)
		if source.Intn(4) == 0 {
			b = wantMeet(a, b).v
		}
		if !isTag(a) || !isTag(b) {
			continue
		}
		var l []api.Sexp
		for range 3 {
			for _, v := range []api.Sexp{a, b, wantMeet(a, b).v} {
				if r := someRequest(source, v); tag.Request(r) {
					l = append(l, r)
				}
			}
		}
		checkMeet(t, a, b, l)
		checkMeet(t, b, a, l)
		checkWithin(t, a, b, l)
		checkWithin(t, b, a, l)
		for _, r := range l {
			checkAllows(t, a, r)
		}
		if !isNone(wantMeet(a, b).v) {
			there++
		}
		if wantWithin(b, a) {
			in++
		}
	}
	if there < 3000 || in < 2000 {
		t.Errorf("P13.1: of some tags but %d meet, and %d are within others", there, in)
	}
}

// isTag tells whether a value is a tag's.
func isTag(v api.Sexp) bool {
	_, e := tag.Get(v)
	return e == api.OK
}

// checkError holds two tags against the error of their meeting; with api.OK there is one that may be.
func checkError(t *testing.T, name string, a, b api.Tag, want api.Errno) {
	t.Helper()
	got, e := meet.Meet(a, b)
	if e != want {
		t.Errorf("P13.1: Meet of %s: %v; want %v", name, e, want)
	}
	if e != api.OK && told(got) != told(api.Tag{}) {
		t.Errorf("P13.1: Meet of %s answers beside %v: %.200s", name, e, told(got))
	}
	if e == api.OK && !tag.May(got) {
		t.Errorf("P13.1: Meet of %s may not be", name)
	}
}

func TestMeetOfNone(t *testing.T) {
	for i, x := range nones() {
		for _, s := range []string{"(*)", "a", "()", "(* set)", "(b)", "(* prefix \"\")"} {
			name := "tag " + strconv.Itoa(i) + " that may not be, and " + s
			checkError(t, name, x, tagOf(s), api.ErrTag)
			checkError(t, name+" ahead", tagOf(s), x, api.ErrTag)
			if meet.Within(x, tagOf(s)) || meet.Within(tagOf(s), x) {
				t.Errorf("P13.1: Within of %s: true", name)
			}
		}
		for k, y := range nones() {
			checkError(t, "two tags that may not be", x, y, api.ErrTag)
			if meet.Within(x, y) {
				t.Errorf("P13.1: Within of tags %d and %d that may not be: true", i, k)
			}
		}
	}
	// Ahead of that, nothing of it is asked whether it is too much.
	many := set(slices.Repeat([]api.Tag{text("a")}, 500)...)
	checkError(t, "one that may not be, and too many pairs", many, set(many, api.Tag{}), api.ErrTag)
}

// texts are so many atoms, numbered from one on.
func texts(n, from int) (out []api.Tag) {
	for i := range n {
		out = append(out, text(strconv.Itoa(from+i)))
	}
	return out
}

// pairs are two tags that are as many pairs as told, from 19884 on.
func pairs(n int) (api.Tag, api.Tag) {
	rest := slices.Repeat([]api.Tag{text("a")}, n-2-140*142)
	return tags(append([]api.Tag{set(texts(140, 1)...)}, rest...)...), tags(append([]api.Tag{set(texts(142, 140)...)}, rest...)...)
}

func TestMeetOfManyPairs(t *testing.T) {
	for n := 19995; n <= 20005; n++ {
		want := api.OK
		if n > 20000 {
			want = api.ErrLong
		}
		a, b := pairs(n)
		name := strconv.Itoa(n) + " pairs"
		checkError(t, name, a, b, want)
		checkError(t, name, b, a, want)
		if got := wantMeet(valueOf(a), valueOf(b)).pairs; got != n {
			t.Errorf("%d pairs; want %d", got, n)
		}
		c, d := pairs(n - 1)
		checkError(t, name+", one of a set and a list", set(c), d, want)
		checkError(t, name+", one of a list and a set", c, set(d), want)
		checkError(t, name+", one of sets", set(c), set(d), want)
		checkError(t, name+", two of sets in sets", set(set(c)), set(d), okIf(n < 20000))
		checkError(t, name+", two of lists, and of sets in them", tags(set(c)), tags(d), okIf(n < 20000))
		checkError(t, name+", one in vain", set(text("x"), c), set(d), okIf(n < 20000))
		checkError(t, name+", some with more behind", a, tags(append(slices.Clone(b.Kids), all(), all())...), want)
	}
	x, y := set(texts(200, 1)...), set(texts(200, 1000)...)
	checkError(t, "40001 pairs that are nothing", x, y, api.ErrLong)
	checkError(t, "40002 pairs, at a list's second place", tags(text("a"), x), tags(text("a"), y), api.ErrLong)
	checkError(t, "nothing ahead of 40001 pairs", tags(text("a"), x), tags(text("b"), y), api.OK)
	checkError(t, "nothing ahead of 40001 pairs, in a set", set(tags(text("a"), x), text("a")), set(tags(text("b"), y), text("a")), api.OK)
	checkError(t, "nothing behind 40001 pairs", tags(x, text("a")), tags(y, text("b")), api.ErrLong)
	checkError(t, "another kind than 40001 pairs", tags(x), text("a"), api.OK)
	checkError(t, "all and a set", all(), x, api.OK)
	checkError(t, "two sets of sets", set(set(texts(120, 1)...), set(texts(120, 1)...)), set(texts(120, 200)...), api.ErrLong)
}

func okIf(holds bool) api.Errno {
	if holds {
		return api.OK
	}
	return api.ErrLong
}

// filled are a list, and one that meets it to so many of a tag in a set, with so many atoms behind.
func filled(n int, x api.Tag, more int) (api.Tag, api.Tag) {
	behind := slices.Repeat([]api.Tag{text("")}, more)
	return tags(append([]api.Tag{set(slices.Repeat([]api.Tag{all()}, n)...)}, behind...)...), tags(x)
}

func TestMeetThatMayNotBe(t *testing.T) {
	some := tags(slices.Repeat([]api.Tag{text("")}, 39)...) // of 40 nodes
	for more := range 40 {
		a, b := filled(12, some, more)
		want := okIf(1+3+12*40+more <= 512)
		checkError(t, "many nodes", a, b, want)
		checkError(t, "many nodes", b, a, want)
		checkError(t, "many nodes, in a set", set(a), set(text("a"), b), want)
	}
	for n := 1320; n < 1350; n++ {
		a, b := filled(3, text(strings.Repeat("a", n)), 0)
		// ((*set a a a)), each a of n bytes, and five of its length
		checkError(t, "many bytes", a, b, okIf(4+3+5+3*(n+5) <= 4096))
		checkError(t, "many bytes", b, a, okIf(4+3+5+3*(n+5) <= 4096))
	}
	for n := 8; n < 16; n++ {
		deep := within(n-1, tags(), tags)
		wide := set(tags(all()), tags(all(), text("a")))
		checkError(t, "depth", wide, tags(deep), okIf(n+2 <= 16))
		checkError(t, "depth", tags(deep), wide, okIf(n+2 <= 16))
		if n < 14 {
			checkError(t, "depth of places", tags(tags(wide)), tags(tags(tags(deep))), okIf(n+4 <= 16))
		}
		checkError(t, "depth, but of one alone", set(tags(all())), tags(deep), api.OK)
	}
	star := text("*")
	for _, x := range [][2]api.Tag{
		{tags(set(star, text("a"))), tags(set(star))},
		{tags(set(star, text("a"))), tags(set(star, text("b")))},
		{tags(set(star)), tags(tagOf("(* prefix \"\")"))},
		{tags(set(star)), tags(tagOf("(* range alpha le \"*\")"))},
		{tags(set(star), text("a")), tags(set(all()), text("a"))},
		{tags(tagOf("(* prefix \"*\")"), text("set"), text("a")), tags(set(star))},
		{set(text("a"), tags(set(star))), set(text("a"), tags(set(star, text("b")), text("c")))},
		{tags(text("a"), tags(set(star, text("b")))), tags(text("a"), tags(set(star, text("c"))))},
	} {
		checkError(t, "lists that come to one that the atom * begins", x[0], x[1], api.ErrLong)
		checkError(t, "lists that come to one that the atom * begins", x[1], x[0], api.ErrLong)
	}
	checkError(t, "lists that begin with a set of the atom *", tags(set(star, text("a"))), tags(set(text("a"), star)), api.OK)
	checkError(t, "lists that begin with a set of the atom *, and with all", tags(set(star)), tags(all()), api.OK)
	checkError(t, "sets that begin with the atom *", set(star, text("a")), set(star, text("a")), api.OK)
	checkError(t, "lists that have the atom * behind", tags(text("a"), set(star)), tags(text("a"), set(star, text("b"))), api.OK)
}

// TestMeetOnTheWay holds that a meeting at one place may not be, though nothing comes of it.
func TestMeetOnTheWay(t *testing.T) {
	some := tags(slices.Repeat([]api.Tag{text("")}, 100)...)
	many, star, a, b := set(slices.Repeat([]api.Tag{all()}, 6)...), text("*"), text("a"), text("b")
	sets := func(l ...api.Tag) api.Tag { return set(tags(l...), tags(append(l, a)...)) }
	for _, x := range [][2]api.Tag{{many, some}, {some, many}, {tags(set(star)), tags(set(star, a))}, {within(3, all(), sets), within(13, tags(), tags)}} {
		checkError(t, "a place that may not be, ahead of nothing", tags(x[0], a), tags(x[1], b), api.ErrLong)
		checkError(t, "a place that may not be, ahead of nothing, in a set", set(text("x"), tags(x[0], a)), set(tags(x[1], b), text("x")), api.ErrLong)
		checkError(t, "a place that may not be, ahead of nothing, in a list", tags(text("x"), tags(x[0], a)), tags(text("x"), tags(x[1], b)), api.ErrLong)
		checkError(t, "nothing ahead of a place that may not be", tags(a, x[0]), tags(b, x[1]), api.OK)
	}
	half := set(slices.Repeat([]api.Tag{all()}, 3)...)
	checkError(t, "two places that may be, and not both, ahead of nothing", tags(half, half, a), tags(some, some, b), api.OK)
	checkError(t, "two places that may be, and not both", tags(half, half), tags(some, some), api.ErrLong)
}
