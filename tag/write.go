package tag

import (
	"greffier/api"
	"greffier/order"
	"greffier/sexp"
)

// valueOf is the value of a tag that may be; of others it is thrown that they may not.
func valueOf(t api.Tag) api.Sexp {
	// Each tag has a node or more of its value: counted here, it ends however many tags there are.
	left := api.MaxNodes
	must(!someTag(t, func(part api.Tag) bool {
		left--
		return left < 0 || !wellMade(part)
	}))
	v := write(t)
	must(sexp.May(v))
	return sexp.Clone(v)
}

// wellMade tells whether a tag has what its kind asks, and nothing else; of its parts only the first one counts.
func wellMade(t api.Tag) bool {
	others := t
	switch t.Kind {
	case api.TagAll:
	case api.TagAtom, api.TagPrefix:
		others.Data = nil
	case api.TagList:
		others.Kids = nil
		if len(t.Kids) > 0 && isStar(t.Kids[0]) {
			return false
		}
	case api.TagSet:
		others.Kids = nil
	case api.TagRange:
		others.Range = api.Range{}
		if !order.May(t.Range) {
			return false
		}
	default:
		return false
	}
	return len(others.Data) == 0 && len(others.Kids) == 0 && sameRange(others.Range, api.Range{})
}

// isStar tells whether a tag is the atom that begins what is no list of tags.
func isStar(t api.Tag) bool { return t.Kind == api.TagAtom && string(t.Data) == star }

// write is the value of a well made tag, with whose memory it shares.
func write(t api.Tag) api.Sexp {
	switch t.Kind {
	case api.TagAll:
		return list(sexp.Atom(star))
	case api.TagSet:
		return list(append([]api.Sexp{sexp.Atom(star), sexp.Atom(set)}, writeAll(t.Kids)...)...)
	case api.TagPrefix:
		return list(sexp.Atom(star), sexp.Atom(prefix), api.Sexp{Data: t.Data})
	case api.TagRange:
		return writeRange(t.Range)
	case api.TagList:
		return list(writeAll(t.Kids)...)
	}
	return api.Sexp{Data: t.Data}
}

// list is a list of values; sexp.List would copy them at each level anew.
func list(kids ...api.Sexp) api.Sexp { return api.Sexp{List: true, Kids: kids} }

// writeAll are well made tags' values.
func writeAll(l []api.Tag) []api.Sexp {
	var out []api.Sexp
	for _, t := range l {
		out = append(out, write(t))
	}
	return out
}

// writeRange is the value of a range that may be.
func writeRange(r api.Range) api.Sexp {
	out := []api.Sexp{sexp.Atom(star), sexp.Atom(span), sexp.Atom(orders[r.Order])}
	out = appendEnd(out, above, r.Lo)
	out = appendEnd(out, below, r.Hi)
	return list(out...)
}

// appendEnd writes a range's end behind some values, with the letter of its side, if there is one.
func appendEnd(out []api.Sexp, side string, end api.Bound) []api.Sexp {
	if !end.Is {
		return out
	}
	if !end.Open {
		side += closed
	}
	return append(out, sexp.Atom(side), api.Sexp{Data: end.At})
}
