package tag_test

import (
	"fmt"
	"math/rand"
	"regexp"
	"slices"
	"strconv"
	"strings"
	"testing"

	"greffier/api"
	"greffier/order"
	"greffier/sexp"
	"greffier/tag"
)

// atom, list and hinted make values.
func atom(s string) api.Sexp { return api.Sexp{Data: []byte(s)} }

func list(l ...api.Sexp) api.Sexp { return api.Sexp{List: true, Kids: l} }

func hinted(hint, s string) api.Sexp {
	return api.Sexp{Hinted: true, Hint: []byte(hint), Data: []byte(s)}
}

// words are a list of atoms, that blanks part.
func words(s string) api.Sexp {
	v := list()
	for _, word := range strings.Fields(s) {
		v.Kids = append(v.Kids, atom(word))
	}
	return v
}

// all, text, prefix, tags, set and span make tags.
func all() api.Tag { return api.Tag{Kind: api.TagAll} }

func text(s string) api.Tag { return api.Tag{Kind: api.TagAtom, Data: []byte(s)} }

func prefix(s string) api.Tag { return api.Tag{Kind: api.TagPrefix, Data: []byte(s)} }

func tags(l ...api.Tag) api.Tag { return api.Tag{Kind: api.TagList, Kids: l} }

func set(l ...api.Tag) api.Tag { return api.Tag{Kind: api.TagSet, Kids: l} }

func span(o uint8, lo, hi api.Bound) api.Tag {
	return api.Tag{Kind: api.TagRange, Range: api.Range{Order: o, Lo: lo, Hi: hi}}
}

func end(open bool, s string) api.Bound { return api.Bound{Is: true, Open: open, At: []byte(s)} }

// told is a tag field by field: nil lists are told as empty ones.
func told(t api.Tag) string { return fmt.Sprintf("%+v", t) }

// toldValue is a value field by field.
func toldValue(v api.Sexp) string { return fmt.Sprintf("%+v", v) }

// form is a value's canonical form, by which tests tell them.
func form(v api.Sexp) string {
	if v.List {
		s := ""
		for _, kid := range v.Kids {
			s += form(kid)
		}
		return "(" + s + ")"
	}
	s := strconv.Itoa(len(v.Data)) + ":" + string(v.Data)
	if v.Hinted {
		s = "[" + strconv.Itoa(len(v.Hint)) + ":" + string(v.Hint) + "]" + s
	}
	return s
}

// names are the orders' names.
var names = map[string]uint8{"alpha": api.Alpha, "numeric": api.Numeric, "time": api.Clock, "binary": api.Binary, "date": api.Date}

// signs are those of a range's ends, a comma behind each one.
var signs = regexp.MustCompile(`\A(?:(ge?),)?(?:(le?),)?\z`)

// wantGet is the tag of a value by other means: a list's shape, and its signs, are held against patterns.
func wantGet(v api.Sexp) (api.Tag, bool) {
	if !v.List {
		return text(string(v.Data)), !v.Hinted
	}
	shape, l := "", []string{}
	for _, kid := range v.Kids {
		if kid.Hinted {
			return api.Tag{}, false
		}
		shape += map[bool]string{false: "a", true: "("}[kid.List]
		l = append(l, string(kid.Data))
	}
	switch {
	case len(l) == 0 || shape[0] != 'a' || l[0] != "*":
		kids, ok := wantAll(v.Kids)
		return tags(kids...), ok
	case len(l) == 1:
		return all(), true
	case strings.HasPrefix(shape, "aa") && l[1] == "set":
		kids, ok := wantAll(v.Kids[2:])
		return set(kids...), ok
	case shape == "aaa" && l[1] == "prefix":
		return prefix(l[2]), true
	case strings.HasPrefix(shape, "aaa") && l[1] == "range" && !strings.Contains(shape, "("):
		return wantSpan(l[2], l[3:])
	}
	return api.Tag{}, false
}

func wantAll(l []api.Sexp) (out []api.Tag, ok bool) {
	for _, v := range l {
		t, is := wantGet(v)
		if !is {
			return nil, false
		}
		out = append(out, t)
	}
	return out, true
}

func wantSpan(name string, l []string) (api.Tag, bool) {
	o, ok := names[name]
	if !ok || len(l)%2 != 0 {
		return api.Tag{}, false
	}
	found, at := "", []string{}
	for i := 0; i < len(l); i += 2 {
		found += l[i] + ","
		at = append(at, l[i+1])
	}
	parts := signs.FindStringSubmatch(found)
	if parts == nil {
		return api.Tag{}, false
	}
	out := span(o, api.Bound{}, api.Bound{})
	for i, side := range []*api.Bound{&out.Range.Lo, &out.Range.Hi} {
		if sign := parts[i+1]; sign != "" {
			*side = end(len(sign) == 1, at[0])
			at = at[1:]
			if !order.Is(o, side.At) {
				return api.Tag{}, false
			}
		}
	}
	return out, true
}

// checkGet holds a value that may be against its tag, and what is got against its value.
func checkGet(t *testing.T, v api.Sexp) {
	t.Helper()
	want, ok := wantGet(v)
	got, e := tag.Get(v)
	if !ok {
		if e != api.ErrTag || told(got) != told(api.Tag{}) {
			t.Errorf("P12.1: Get of %.200s: %v, %.200s; want ErrTag", form(v), e, told(got))
		}
		return
	}
	if e != api.OK || told(got) != told(want) {
		t.Errorf("P12.1: Get of %.200s: %v, %.200s; want %.200s", form(v), e, told(got), told(want))
		return
	}
	back, e := tag.Put(got)
	if e != api.OK || form(back) != form(v) || !sexp.Same(back, v) || !tag.May(got) {
		t.Errorf("P12.2: %.200s is put back as %.200s, %v", form(v), form(back), e)
	}
}

// wantForm is the canonical form of a tag's value by other means; false of a tag that may not be, however long its form is.
func wantForm(t api.Tag) (string, bool) {
	noData, noKids, noRange := len(t.Data) == 0, len(t.Kids) == 0, told(api.Tag{Range: t.Range}) == told(api.Tag{})
	kids := ""
	for _, kid := range t.Kids {
		s, ok := wantForm(kid)
		if !ok {
			return "", false
		}
		kids += s
	}
	switch t.Kind {
	case api.TagAll:
		return "(1:*)", noData && noKids && noRange
	case api.TagAtom:
		return form(api.Sexp{Data: t.Data}), noKids && noRange
	case api.TagList:
		return "(" + kids + ")", noData && noRange && !strings.HasPrefix(kids, "1:*")
	case api.TagSet:
		return "(1:*3:set" + kids + ")", noData && noRange
	case api.TagPrefix:
		return "(1:*6:prefix" + form(api.Sexp{Data: t.Data}) + ")", noKids && noRange
	case api.TagRange:
		s, ok := wantSpanForm(t.Range)
		return "(1:*5:range" + s + ")", ok && noKids && noData
	}
	return "", false
}

func wantSpanForm(r api.Range) (string, bool) {
	out, ok := "", false
	for name, o := range names {
		if o == r.Order {
			out, ok = form(atom(name)), true
		}
	}
	for _, side := range []struct {
		end          api.Bound
		open, closed string
	}{{r.Lo, "1:g", "2:ge"}, {r.Hi, "1:l", "2:le"}} {
		switch {
		case !side.end.Is:
			ok = ok && !side.end.Open && len(side.end.At) == 0
			continue
		case side.end.Open:
			out += side.open
		default:
			out += side.closed
		}
		out += form(api.Sexp{Data: side.end.At})
		ok = ok && order.Is(r.Order, side.end.At)
	}
	return out, ok
}

// checkPut holds a tag against its value, and what is put against the tag.
func checkPut(t *testing.T, x api.Tag) {
	t.Helper()
	want, ok := wantForm(x)
	if ok {
		_, _, e := sexp.Get([]byte(want))
		ok = e == api.OK
	}
	v, e := tag.Put(x)
	if may := tag.May(x); may != ok {
		t.Errorf("P12.1: May of %.200s: %v; want %v", told(x), may, ok)
	}
	if !ok {
		if e != api.ErrTag || toldValue(v) != toldValue(api.Sexp{}) {
			t.Errorf("P12.1: Put of %.200s: %v, %.200s; want ErrTag", told(x), e, toldValue(v))
		}
		return
	}
	if e != api.OK || !sexp.May(v) || form(v) != want {
		t.Errorf("P12.1: Put of %.200s: %v, %.200s; want %.200s", told(x), e, form(v), want)
		return
	}
	back, e := tag.Get(v)
	if e != api.OK || told(back) != told(x) || !tag.Same(back, x) {
		t.Errorf("P12.2: %.200s is got back as %.200s, %v", told(x), told(back), e)
	}
}

func TestOfFew(t *testing.T) {
	for s, want := range map[string]api.Tag{
		"(1:*)":                              all(),
		"3:ftp":                              text("ftp"),
		"1:*":                                text("*"),
		"0:":                                 text(""),
		"()":                                 tags(),
		"(())":                               tags(tags()),
		"(3:ftp(1:*6:prefix5:/pub/))":        tags(text("ftp"), prefix("/pub/")),
		"(3:ftp1:*)":                         tags(text("ftp"), text("*")),
		"((1:*)1:*)":                         tags(all(), text("*")),
		"(2:**)":                             tags(text("**")),
		"(0:)":                               tags(text("")),
		"(3:set1:a)":                         tags(text("set"), text("a")),
		"(6:prefix1:a)":                      tags(text("prefix"), text("a")),
		"(1:*3:set)":                         set(),
		"(1:*3:set1:*)":                      set(text("*")),
		"(1:*3:set1:*3:set)":                 set(text("*"), text("set")),
		"(1:*3:set(1:*)(1:*3:set)())":        set(all(), set(), tags()),
		"(1:*6:prefix0:)":                    prefix(""),
		"(1:*6:prefix1:*)":                   prefix("*"),
		"(1:*5:range5:alpha)":                span(api.Alpha, api.Bound{}, api.Bound{}),
		"(1:*5:range5:alpha1:g1:l)":          span(api.Alpha, end(true, "l"), api.Bound{}),
		"(1:*5:range5:alpha1:g1:l1:l1:g)":    span(api.Alpha, end(true, "l"), end(true, "g")),
		"(1:*5:range5:alpha2:le2:ge)":        span(api.Alpha, api.Bound{}, end(false, "ge")),
		"(1:*5:range5:alpha2:ge0:2:le0:)":    span(api.Alpha, end(false, ""), end(false, "")),
		"(1:*5:range7:numeric2:ge1:21:l1:1)": span(api.Numeric, end(false, "2"), end(true, "1")),
		"(1:*5:range7:numeric1:g4:-inf)":     span(api.Numeric, end(true, "-inf"), api.Bound{}),
		"(1:*5:range6:binary2:ge2:\x00\x05)": span(api.Binary, end(false, "\x00\x05"), api.Bound{}),
		"(1:*5:range4:time2:le8:23:59:59)":   span(api.Clock, api.Bound{}, end(false, "23:59:59")),
		"(1:*5:range4:date1:g19:2024-02-29_00:00:00)": span(api.Date, end(true, "2024-02-29_00:00:00"), api.Bound{}),
	} {
		v, _, e := sexp.Get([]byte(s))
		if e != api.OK {
			t.Errorf("%s is no value", s)
		}
		if got, e := tag.Get(v); e != api.OK || told(got) != told(want) {
			t.Errorf("P12.1: Get of %s: %v, %s; want %s", s, e, told(got), told(want))
		}
		if back, e := tag.Put(want); e != api.OK || form(back) != s {
			t.Errorf("P12.1: Put of %s: %v, %s; want %s", told(want), e, form(back), s)
		}
		checkGet(t, v)
		checkPut(t, want)
	}
}

func TestGetOfNone(t *testing.T) {
	for _, s := range []string{
		"(1:*0:)", "(1:*1:*)", "(1:*1:x)", "(1:*())", "(1:*(3:set))", "(1:*3:Set)", "(1:*4:sets)", "(1:*2:se)", "(1:*5:set a)",
		"(1:*6:prefix)", "(1:*6:prefix1:a1:b)", "(1:*6:prefix())", "(1:*6:prefix(1:a))", "(1:*6:prefix(1:*))", "(1:*6:Prefix1:a)", "(1:*8:prefixes1:a)",
		"(1:*5:range)", "(1:*5:range0:)", "(1:*5:range())", "(1:*5:range5:Alpha)", "(1:*5:range5:clock)", "(1:*5:range5:weird)", "(1:*5:range1:1)", "(1:*5:range1:\x01)", "(1:*5:range6:alphas)", "(1:*5:range4:alph)",
		"(1:*5:range5:alpha1:g)", "(1:*5:range5:alpha2:ge)", "(1:*5:range5:alpha1:l)", "(1:*5:range5:alpha2:le)", "(1:*5:range5:alpha1:x)", "(1:*5:range5:alpha1:x1:a)", "(1:*5:range5:alpha0:1:a)", "(1:*5:range5:alpha1:e1:a)", "(1:*5:range5:alpha2:eg1:a)", "(1:*5:range5:alpha3:gee1:a)", "(1:*5:range5:alpha2:gt1:a)", "(1:*5:range5:alpha1:G1:a)", "(1:*5:range5:alpha2:lt1:a)",
		"(1:*5:range5:alpha1:g1:a1:l)", "(1:*5:range5:alpha1:g1:a1:x)", "(1:*5:range5:alpha1:g1:a1:x1:b)", "(1:*5:range5:alpha1:l1:a1:g1:b)", "(1:*5:range5:alpha1:g1:a2:ge1:b)", "(1:*5:range5:alpha1:l1:a1:l1:b)", "(1:*5:range5:alpha1:g1:a1:l1:b1:l1:c)", "(1:*5:range5:alpha1:g1:a1:l1:b1:x)", "(1:*5:range5:alpha1:g1:a1:l1:b1:l)",
		"(1:*5:range5:alpha())", "(1:*5:range5:alpha(1:g1:a))", "(1:*5:range5:alpha1:g())", "(1:*5:range5:alpha()1:a)", "(1:*5:range5:alpha1:g1:a())", "(1:*5:range5:alpha1:g1:a1:l())", "(1:*5:range5:alpha1:g1:a1:l1:b())", "(1:*5:range5:alpha1:l(1:a))",
		"(1:*5:range7:numeric1:g1:x)", "(1:*5:range7:numeric1:g3:nan)", "(1:*5:range7:numeric1:l0:)", "(1:*5:range7:numeric1:g1:11:l1:x)", "(1:*5:range4:time1:g8:24:00:00)", "(1:*5:range4:date1:g19:2023-02-29_00:00:00)", "(1:*5:range4:date1:l8:00:00:00)", "(1:*5:range4:time1:l19:2024-02-29_00:00:00)",
		"[1:h]1:a", "[0:]1:a", "[0:]0:", "([1:h]1:a)", "(1:a[0:]1:b)", "([0:]1:*)", "(1:*[0:]3:set)", "(1:*3:set[1:h]1:a)", "(1:*[1:h]6:prefix1:a)", "(1:*6:prefix[0:]1:a)", "(1:*[0:]5:range5:alpha)", "(1:*5:range[0:]5:alpha)", "(1:*5:range5:alpha[0:]1:g1:a)", "(1:*5:range5:alpha1:g[0:]1:a)", "(1:*5:range5:alpha1:g1:a1:l[0:]1:b)",
		"(1:a(1:*1:x))", "((1:*1:x)1:a)", "(1:a(1:b(1:*1:x)))", "(1:*3:set(1:*1:x))", "(1:*3:set1:a(1:*3:set(1:*6:prefix)))", "(1:a(1:b([1:h]1:c)))",
	} {
		v, _, e := sexp.Get([]byte(s))
		if e != api.OK {
			t.Errorf("%s is no value", s)
		}
		if got, e := tag.Get(v); e != api.ErrTag || told(got) != told(api.Tag{}) {
			t.Errorf("P12.1: Get of %s: %v, %s; want ErrTag", s, e, told(got))
		}
		checkGet(t, v)
	}
}

// everyList hands on all lists of some values, as long as told, or shorter, behind others.
func everyList(longest int, ahead, of []api.Sexp, do func(api.Sexp)) {
	do(list(ahead...))
	if longest == 0 {
		return
	}
	for _, v := range of {
		everyList(longest-1, append(slices.Clone(ahead), v), of, do)
	}
}

func TestGetOfEvery(t *testing.T) {
	check := func(v api.Sexp) { checkGet(t, v) }
	of := []api.Sexp{atom("*"), atom("set"), atom("prefix"), atom("range"), atom("alpha"), atom(""), atom("a"), hinted("", "*"), hinted("h", "set"), list(), words("*"), words("* x"), words("* set a"), list(hinted("", "a"))}
	everyList(4, nil, of, check)
	ends := []api.Sexp{atom("g"), atom("ge"), atom("l"), atom("le"), atom("1"), atom("x"), list()}
	for _, name := range []string{"alpha", "numeric", "binary", "time", "date", "clock", ""} {
		everyList(5, []api.Sexp{atom("*"), atom("range"), atom(name)}, ends, check)
	}
}

// TestGetOfEveryByte holds words of which one byte is another one, or one is missing, or one more.
func TestGetOfEveryByte(t *testing.T) {
	for _, s := range []string{"*", "* set a", "* prefix a", "* range alpha", "* range numeric ge 1 le 2", "* range binary g 1 l 2", "* range time ge 00:00:00", "* range date le 2024-02-29_00:00:00"} {
		for i := range words(s).Kids {
			data := words(s).Kids[i].Data
			for k := range len(data) + 1 {
				for c := range 256 {
					v, u := words(s), words(s)
					v.Kids[i].Data = slices.Insert(slices.Clone(data), k, byte(c))
					checkGet(t, v)
					if k < len(data) {
						u.Kids[i].Data[k] = byte(c)
						checkGet(t, u)
					}
				}
				if k < len(data) {
					v := words(s)
					v.Kids[i].Data = slices.Delete(slices.Clone(data), k, k+1)
					checkGet(t, v)
				}
			}
		}
	}
}

// someValue is a random one, mostly one that is a tag's.
func someValue(source *rand.Rand, deep int) api.Sexp {
	if deep == 0 || source.Intn(3) == 0 {
		if source.Intn(60) == 0 {
			return hinted("h", "a")
		}
		return atom([]string{"", "a", "b", "*", "set", "ab"}[source.Intn(6)])
	}
	v := list()
	switch source.Intn(6) {
	case 0:
		v = words([]string{"*", "* prefix a", "* prefix", "* range alpha g a", "* range numeric ge 1 l 2", "* range numeric ge x", "* range date", "* set", "* x"}[source.Intn(9)])
	case 1, 2:
		v = words("* set")
	}
	if len(v.Kids) == 0 || len(v.Kids) == 2 {
		for range source.Intn(4) {
			v.Kids = append(v.Kids, someValue(source, deep-1))
		}
	}
	return v
}

func TestGetOfSome(t *testing.T) {
	source := rand.New(rand.NewSource(12))
	there := 0
	for range 25000 {
		v := someValue(source, 5)
		if !sexp.May(v) {
			continue
		}
		checkGet(t, v)
		if x, e := tag.Get(v); e == api.OK {
			there++
			checkPut(t, x)
		}
	}
	if there < 5000 {
		t.Errorf("P12.1: of some values but %d are tags'", there)
	}
}

// TestGetOfOthers holds that a value that may not be is none's, whatever it would be the value of.
func TestGetOfOthers(t *testing.T) {
	deep := func(n int) api.Sexp {
		v := list()
		for range n - 1 {
			v = list(v)
		}
		return v
	}
	for name, v := range map[string]api.Sexp{
		"an atom with kids":              {Data: []byte("a"), Kids: []api.Sexp{atom("a")}},
		"an atom that hides a hint":      {Data: []byte("a"), Hint: []byte("h")},
		"a list with data":               {List: true, Data: []byte("a")},
		"a list that is hinted":          {List: true, Hinted: true},
		"a list that hides a hint":       {List: true, Hint: []byte("h")},
		"* with kids, in a list":         list(api.Sexp{Data: []byte("*"), Kids: []api.Sexp{atom("a")}}),
		"set that hides a hint":          list(atom("*"), api.Sexp{Data: []byte("set"), Hint: []byte("h")}),
		"a prefix with kids":             list(atom("*"), atom("prefix"), api.Sexp{Data: []byte("a"), Kids: []api.Sexp{atom("a")}}),
		"17 lists":                       deep(17),
		"513 nodes":                      list(slices.Repeat([]api.Sexp{atom("")}, 512)...),
		"4097 bytes":                     atom(strings.Repeat("a", 4092)),
		"4097 bytes of a prefix":         list(atom("*"), atom("prefix"), atom(strings.Repeat("a", 4079))),
		"many nodes":                     list(slices.Repeat([]api.Sexp{list()}, 1<<20)...),
		"many bytes":                     atom(strings.Repeat("a", 1<<24)),
		"a list with data in the last":   list(atom("a"), list(list(), api.Sexp{List: true, Data: []byte("a")})),
		"(* set) of a list with a hint":  list(atom("*"), atom("set"), api.Sexp{List: true, Hint: []byte("h")}),
		"(* range alpha) of a bad order": list(atom("*"), atom("range"), api.Sexp{Data: []byte("alpha"), Kids: []api.Sexp{list()}}),
	} {
		if got, e := tag.Get(v); e != api.ErrTag || told(got) != told(api.Tag{}) {
			t.Errorf("P12.1: Get of %s: %v, %.200s; want ErrTag", name, e, told(got))
		}
		if tag.Request(v) {
			t.Errorf("P12.1: Request of %s: true", name)
		}
	}
	checkGet(t, deep(16))
	checkGet(t, list(slices.Repeat([]api.Sexp{atom("")}, 511)...))
	checkGet(t, atom(strings.Repeat("a", 4091)))
	checkGet(t, list(atom("*"), atom("prefix"), atom(strings.Repeat("a", 4078))))
}

// ranges are fields of tags that may be, or not.
func ranges() []api.Range {
	x := []byte("x")
	return []api.Range{
		{}, {Order: api.Alpha}, {Order: 6}, {Order: 255}, {Lo: api.Bound{Is: true}}, {Hi: api.Bound{Is: true}}, {Lo: api.Bound{Open: true}}, {Hi: api.Bound{Open: true}}, {Lo: api.Bound{At: x}}, {Hi: api.Bound{At: x}},
		{Order: api.Alpha, Lo: end(true, "x")}, {Order: api.Alpha, Hi: end(true, "x")}, {Order: api.Alpha, Lo: end(false, ""), Hi: end(false, "")}, {Order: api.Alpha, Lo: api.Bound{Open: true}}, {Order: api.Alpha, Hi: api.Bound{Open: true}}, {Order: api.Alpha, Lo: api.Bound{At: x}}, {Order: api.Alpha, Hi: api.Bound{At: x}},
		{Order: api.Numeric, Lo: end(false, "2"), Hi: end(true, "1")}, {Order: api.Numeric, Lo: end(false, "x")}, {Order: api.Numeric, Hi: end(false, "x")}, {Order: api.Numeric, Lo: end(false, "nan")},
		{Order: api.Clock, Lo: end(false, "00:00:00")}, {Order: api.Clock, Hi: end(false, "24:00:00")}, {Order: api.Binary, Lo: end(true, "\x00"), Hi: end(true, "\x00")}, {Order: api.Date, Hi: end(true, "2024-02-29_00:00:00")}, {Order: api.Date, Hi: end(true, "2023-02-29_00:00:00")},
	}
}

// fields are tags of every kind, with fields of theirs or not.
func fields() (out []api.Tag) {
	for _, kind := range []uint8{0, 1, 2, 3, 4, 5, 6, 7, 255} {
		for _, data := range [][]byte{nil, {}, []byte("x"), []byte("*")} {
			for _, r := range ranges() {
				for _, kids := range [][]api.Tag{
					nil, {}, {text("x")}, {text("*")}, {text("*"), text("x")}, {text("x"), text("*")}, {all()}, {all(), text("*")}, {tags(text("*"))}, {set(text("*"))}, {prefix("*")},
					{{}}, {text("x"), {}}, {{Kind: api.TagAtom, Data: []byte("*"), Kids: []api.Tag{all()}}}, {text("x"), {Kind: api.TagAll, Data: []byte("x")}}, {span(api.Alpha, api.Bound{}, api.Bound{}), span(api.Numeric, end(false, "x"), api.Bound{})},
				} {
					out = append(out, api.Tag{Kind: kind, Data: data, Kids: kids, Range: r})
				}
			}
		}
	}
	return out
}

func TestPutOfEvery(t *testing.T) {
	for _, x := range fields() {
		checkPut(t, x)
		checkPut(t, tags(text("a"), x))
		checkPut(t, tags(x, text("a")))
		checkPut(t, set(x))
		checkPut(t, tags(set(), tags(set(text("a"), x))))
	}
}

func TestPutOfEveryKind(t *testing.T) {
	for kind := range 256 {
		for _, x := range []api.Tag{{}, {Data: []byte("x")}, {Kids: []api.Tag{text("x")}}, {Range: api.Range{Order: api.Alpha}}} {
			x.Kind = uint8(kind)
			checkPut(t, x)
			checkPut(t, tags(text("a"), x))
		}
	}
	for o := range 256 {
		checkPut(t, span(uint8(o), api.Bound{}, api.Bound{}))
		checkPut(t, span(uint8(o), end(true, ""), api.Bound{}))
	}
}

// within is a tag in so many others.
func within(n int, x api.Tag, in func(...api.Tag) api.Tag) api.Tag {
	for range n {
		x = in(x)
	}
	return x
}

func TestPutAtTheLimits(t *testing.T) {
	for n := 13; n < 19; n++ {
		for _, x := range []api.Tag{text("a"), all(), tags(), set(), prefix("a"), span(api.Alpha, api.Bound{}, api.Bound{})} {
			checkPut(t, within(n, x, tags))
			checkPut(t, within(n, x, set))
			checkPut(t, tags(text("a"), within(n-1, x, set)))
			checkPut(t, tags(within(n-1, x, tags), text("*")))
		}
	}
	for n := 248; n < 260; n++ {
		checkPut(t, tags(slices.Repeat([]api.Tag{all()}, n)...))
		checkPut(t, set(slices.Repeat([]api.Tag{all()}, n)...))
		checkPut(t, set(slices.Repeat([]api.Tag{tags(text(""))}, n)...))
	}
	for n := 505; n < 520; n++ {
		checkPut(t, tags(slices.Repeat([]api.Tag{text("")}, n)...))
		checkPut(t, set(slices.Repeat([]api.Tag{text("")}, n)...))
		checkPut(t, tags(set(slices.Repeat([]api.Tag{tags()}, n)...)))
	}
	for n := 4030; n < 4100; n++ {
		long := strings.Repeat("1", n)
		checkPut(t, text(long))
		checkPut(t, prefix(long))
		checkPut(t, tags(text("a"), text(long)))
		checkPut(t, set(text(long)))
		checkPut(t, span(api.Alpha, end(true, long), api.Bound{}))
		checkPut(t, span(api.Alpha, api.Bound{}, end(false, long)))
		checkPut(t, span(api.Binary, end(false, long[:n/2]), end(false, long[:n-n/2])))
	}
}

func TestPutOfMany(t *testing.T) {
	kids := make([]api.Tag, 3)
	in := tags(kids...)
	for i := range kids {
		kids[i] = in
	}
	for name, x := range map[string]api.Tag{
		"a list in itself": in, "a set in itself": set(kids...), "many lists": tags(slices.Repeat([]api.Tag{tags()}, 1<<20)...), "many sets": tags(set(slices.Repeat([]api.Tag{set()}, 1<<20)...)),
		"a deep list": within(1<<14, tags(), tags), "a deep set": within(1<<14, text("a"), set), "a long atom": text(strings.Repeat("a", 1<<24)), "a long prefix": prefix(strings.Repeat("a", 1<<24)), "a long range": span(api.Binary, end(true, strings.Repeat("a", 1<<24)), api.Bound{}),
	} {
		if v, e := tag.Put(x); e != api.ErrTag || toldValue(v) != toldValue(api.Sexp{}) || tag.May(x) {
			t.Errorf("P12.1: Put of %s: %v; want ErrTag", name, e)
		}
	}
}

func TestSame(t *testing.T) {
	var l []api.Tag
	for i, x := range fields() {
		if i%23 == 0 || i < 100 {
			l = append(l, x)
		}
	}
	for _, r := range ranges() {
		for _, s := range []string{"", "x", "y"} {
			r.Lo.At, r.Hi.At = append([]byte(s), r.Lo.At...), append([]byte("x"), r.Hi.At...)
			l = append(l, api.Tag{Kind: api.TagRange, Range: r}, tags(all(), api.Tag{Range: r}))
		}
	}
	l = append(l, tags(text("a"), text("b")), tags(text("b"), text("a")), tags(text("a")), tags(text("a"), text("b"), text("c")), set(text("a"), text("b")), text("ab"), text("abc"), text("a\x00"), tags(tags(text("a"))), tags(tags(text("b"))), tags(set(text("a"))), tags(tags(), tags()))
	texts := make([]string, len(l))
	for i, x := range l {
		texts[i] = told(x)
	}
	for i, a := range l {
		for k, b := range l {
			if got := tag.Same(a, b); got != (texts[i] == texts[k]) {
				t.Errorf("P12.1: Same of %s and %s: %v", texts[i], texts[k], got)
			}
		}
	}
}

// wantRequest is whether a value that may be is a request, by other means.
func wantRequest(v api.Sexp) bool {
	if v.List && len(v.Kids) > 0 && strings.HasPrefix(form(v.Kids[0]), "1:*") {
		return false
	}
	for _, kid := range v.Kids {
		if !wantRequest(kid) {
			return false
		}
	}
	return !v.Hinted
}

func checkRequest(t *testing.T, v api.Sexp) {
	t.Helper()
	if got, want := tag.Request(v), wantRequest(v); got != want {
		t.Errorf("P12.1: Request of %s: %v; want %v", form(v), got, want)
	}
}

func TestRequestOfFew(t *testing.T) {
	for s, want := range map[string]bool{
		"1:a": true, "0:": true, "1:*": true, "()": true, "(1:a)": true, "(1:a1:*)": true, "(2:**)": true, "(0:1:*)": true, "(()1:*)": true, "(3:ftp4:host)": true, "(1:a(1:b(1:c)))": true, "(3:set6:prefix)": true, "((1:a1:*)1:*)": true,
		"(1:*)": false, "(1:*1:a)": false, "(1:*3:set)": false, "(1:*6:prefix1:a)": false, "(1:a(1:*))": false, "((1:*))": false, "(1:a(1:b(1:*3:set)))": false, "(1:a()(1:*)1:b)": false,
		"[0:]0:": false, "[1:h]1:a": false, "([1:h]1:a)": false, "(1:a[0:]1:b)": false, "([0:]1:*)": false, "(1:a(1:b([0:]1:c)))": false,
	} {
		v, _, e := sexp.Get([]byte(s))
		if got := tag.Request(v); e != api.OK || got != want {
			t.Errorf("P12.1: Request of %s: %v; want %v", s, got, want)
		}
		checkRequest(t, v)
	}
	v := words("a *")
	for range 14 {
		v = list(atom("*a"), v)
	}
	checkRequest(t, list(v))
	if tag.Request(list(list(v))) || !tag.Request(list(v)) {
		t.Error("P12.1: Request at the limit of depth")
	}
}

func TestRequestOfEvery(t *testing.T) {
	of := []api.Sexp{atom("*"), atom(""), atom("a"), atom("**"), hinted("", "*"), hinted("h", "a"), list(), words("*"), words("a *"), list(words("* a")), list(list(hinted("", "a")))}
	everyList(4, nil, of, func(v api.Sexp) {
		checkRequest(t, v)
		checkRequest(t, list(atom("a"), v))
	})
	source := rand.New(rand.NewSource(21))
	for range 60000 {
		if v := someValue(source, 4); sexp.May(v) {
			checkRequest(t, v)
		}
	}
}
