package meet_test

import (
	"fmt"
	"slices"
	"strings"

	"greffier/api"
	"greffier/notation"
	"greffier/order"
	"greffier/sexp"
	"greffier/tag"
)

// What is wanted is told by other means: of tags' values, not of tags.

// value is what is told by a text for people.
func value(s string) api.Sexp {
	v, _, e := notation.Read(s)
	if e != api.OK {
		panic(s)
	}
	return v
}

// tagOf is the tag that is told so.
func tagOf(s string) api.Tag {
	t, e := tag.Get(value(s))
	if e != api.OK {
		panic(s)
	}
	return t
}

// valueOf is the value of a tag that may be.
func valueOf(t api.Tag) api.Sexp {
	v, e := tag.Put(t)
	if e != api.OK {
		panic(told(t))
	}
	return v
}

// textOf is a value as a text for people.
func textOf(v api.Sexp) string {
	s, _ := notation.Print(v)
	return s
}

// told is a tag field by field: nil lists are told as empty ones.
func told(t api.Tag) string { return fmt.Sprintf("%+v", t) }

// atom and list make values.
func atom(s string) api.Sexp { return api.Sexp{Data: []byte(s)} }

func list(l ...api.Sexp) api.Sexp { return api.Sexp{List: true, Kids: l} }

// kindOf is the word that tells a tag's kind in its value.
func kindOf(v api.Sexp) string {
	switch {
	case !v.List:
		return "atom"
	case len(v.Kids) == 0 || v.Kids[0].List || string(v.Kids[0].Data) != "*":
		return "list"
	case len(v.Kids) == 1:
		return "all"
	}
	return string(v.Kids[1].Data)
}

// inRange tells whether bytes are in the range that a value tells.
func inRange(v api.Sexp, b []byte) bool {
	o := orderOf(v)
	if !order.Is(o, b) {
		return false
	}
	for i := 3; i < len(v.Kids); i += 2 {
		c, _ := order.Compare(o, b, v.Kids[i+1].Data)
		switch string(v.Kids[i].Data) {
		case "g":
			c--
		case "l":
			c = -c - 1
		case "le":
			c = -c
		}
		if c < 0 {
			return false
		}
	}
	return true
}

// orderOf is the order of a range's value.
func orderOf(v api.Sexp) uint8 {
	return map[string]uint8{"alpha": api.Alpha, "numeric": api.Numeric, "time": api.Clock, "binary": api.Binary, "date": api.Date}[string(v.Kids[2].Data)]
}

// wantAllows is whether a tag, told by its value, allows a request.
func wantAllows(v, request api.Sexp) bool {
	switch kindOf(v) {
	case "all":
		return true
	case "set":
		for _, kid := range v.Kids[2:] {
			if wantAllows(kid, request) {
				return true
			}
		}
		return false
	case "list":
		for i, kid := range v.Kids {
			if i >= len(request.Kids) || !wantAllows(kid, request.Kids[i]) {
				return false
			}
		}
		return request.List
	}
	text := string(request.Data)
	switch {
	case request.List:
		return false
	case kindOf(v) == "prefix":
		return strings.HasPrefix(text, string(v.Kids[2].Data))
	case kindOf(v) == "range":
		return inRange(v, request.Data)
	}
	return text == string(v.Data)
}

// wantWithin is whether a tag is seen to be within another one: each rule is asked, whatever the others answer.
func wantWithin(a, b api.Sexp) bool {
	kind, other := kindOf(a), kindOf(b)
	is := other == "all"
	if kind == "set" {
		each := true
		for _, kid := range a.Kids[2:] {
			each = each && wantWithin(kid, b)
		}
		is = is || each
	}
	if other == "set" {
		for _, kid := range b.Kids[2:] {
			is = is || wantWithin(a, kid)
		}
	}
	if kind == "list" && other == "list" && len(a.Kids) >= len(b.Kids) {
		each := true
		for i, kid := range b.Kids {
			each = each && wantWithin(a.Kids[i], kid)
		}
		is = is || each
	}
	if kind == "prefix" && other == "prefix" {
		is = is || strings.HasPrefix(string(a.Kids[2].Data), string(b.Kids[2].Data))
	}
	if kind == "range" && other == "range" {
		x, _ := tag.Get(a)
		y, _ := tag.Get(b)
		is = is || order.Within(x.Range, y.Range)
	}
	return is || kind == "atom" && wantAllows(b, a)
}

// wanted is what is wanted of a meeting.
type wanted struct {
	v     api.Sexp
	pairs int
	long  bool // it may not be, or one of places on the way to it
	mixed bool // a prefix stands beside a range, or ranges of two orders do
}

// none is what is wanted of two tags where nothing is allowed by both.
func none() api.Sexp { return list(atom("*"), atom("set")) }

func isNone(v api.Sexp) bool { return kindOf(v) == "set" && len(v.Kids) == 2 }

// wantMeet is two tags' meeting, told by values.
func wantMeet(a, b api.Sexp) wanted {
	out := wanted{v: none(), pairs: 1}
	kind, other := kindOf(a), kindOf(b)
	switch {
	case kind == "all":
		out.v = b
	case other == "all":
		out.v = a
	case kind == "set" || other == "set":
		out.meetSets(a, b)
	case kind == "list" && other == "list":
		out.meetLists(a, b)
	case kind == "atom" && other != "list":
		if wantAllows(b, a) {
			out.v = a
		}
	case other == "atom" && kind != "list":
		if wantAllows(a, b) {
			out.v = b
		}
	case kind == "prefix" && other == "prefix":
		x, y := string(a.Kids[2].Data), string(b.Kids[2].Data)
		if strings.HasPrefix(x, y) {
			out.v = a
		} else if strings.HasPrefix(y, x) {
			out.v = b
		}
	case kind == "range" && other == "range" && orderOf(a) == orderOf(b):
		out.v = wantRange(a, b)
	default:
		out.mixed = kind != "list" && other != "list"
	}
	return out
}

// add takes over what another meeting tells, but for its value.
func (w *wanted) add(m wanted) {
	w.pairs += m.pairs
	w.long = w.long || m.long
	w.mixed = w.mixed || m.mixed
}

// meetSets makes out all pairs of two tags' parts, ahead of holding them against each other.
func (w *wanted) meetSets(a, b api.Sexp) {
	l, others := []api.Sexp{a}, []api.Sexp{b}
	if kindOf(a) == "set" {
		l = a.Kids[2:]
	}
	if kindOf(b) == "set" {
		others = b.Kids[2:]
	}
	var pairs [][2]api.Sexp
	for _, x := range l {
		for _, y := range others {
			pairs = append(pairs, [2]api.Sexp{x, y})
		}
	}
	for _, p := range pairs {
		m := wantMeet(p[0], p[1])
		w.add(m)
		if kindOf(m.v) == "set" {
			w.v.Kids = append(w.v.Kids, m.v.Kids[2:]...)
		} else {
			w.v.Kids = append(w.v.Kids, m.v)
		}
	}
	if len(w.v.Kids) == 3 {
		w.v = w.v.Kids[2]
	}
	w.long = w.long || !sexp.May(w.v)
}

func (w *wanted) meetLists(a, b api.Sexp) {
	if len(b.Kids) > len(a.Kids) {
		a, b = b, a
	}
	out := list()
	for i, kid := range a.Kids {
		if i >= len(b.Kids) {
			out.Kids = append(out.Kids, kid)
			continue
		}
		m := wantMeet(kid, b.Kids[i])
		w.add(m)
		out.Kids = append(out.Kids, m.v)
		if isNone(m.v) {
			return
		}
	}
	for _, kid := range out.Kids {
		if isNone(kid) {
			return
		}
	}
	w.v = out
	w.long = w.long || !sexp.May(out) || kindOf(out) != "list"
}

// wantRange is two ranges' meeting: of the ends of both those stay that leave no other one out.
func wantRange(a, b api.Sexp) api.Sexp {
	out := list(slices.Clone(a.Kids[:3])...)
	for _, side := range []struct {
		sign   string
		beyond int
	}{{"g", 1}, {"l", -1}} {
		var ends [][]api.Sexp
		for _, v := range []api.Sexp{a, b} {
			for i := 3; i < len(v.Kids); i += 2 {
				if string(v.Kids[i].Data[:1]) == side.sign {
					ends = append(ends, v.Kids[i:i+2])
				}
			}
		}
		if len(ends) == 2 {
			c, _ := order.Compare(orderOf(a), ends[1][1].Data, ends[0][1].Data)
			if c == side.beyond || c == 0 && len(ends[1][0].Data) < len(ends[0][0].Data) {
				ends = ends[1:]
			}
		}
		if len(ends) > 0 {
			out.Kids = append(out.Kids, ends[0]...)
		}
	}
	if x, _ := tag.Get(out); order.Empty(x.Range) {
		return none()
	}
	return out
}
