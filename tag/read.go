package tag

import (
	"bytes"

	"greffier/api"
	"greffier/order"
	"greffier/sexp"
)

// tagOf is the tag of a value; if there is none, that is thrown.
func tagOf(v api.Sexp) api.Tag {
	must(sexp.May(v) && !someValue(v, func(part api.Sexp) bool { return part.Hinted }))
	return read(v)
}

// read is the tag of a value without hints that may be.
func read(v api.Sexp) api.Tag {
	if !v.List {
		return api.Tag{Kind: api.TagAtom, Data: readAtom(v)}
	}
	if !isSpecial(v) {
		return api.Tag{Kind: api.TagList, Kids: readAll(v.Kids)}
	}
	return readSpecial(v.Kids[1:])
}

// isSpecial tells whether a value is a list that the atom * begins, and so none of tags.
func isSpecial(v api.Sexp) bool {
	return len(v.Kids) > 0 && !v.Kids[0].List && string(v.Kids[0].Data) == star
}

// readAtom are an atom's bytes.
func readAtom(v api.Sexp) []byte {
	must(!v.List)
	return bytes.Clone(v.Data)
}

// readAll are values' tags.
func readAll(l []api.Sexp) []api.Tag {
	var out []api.Tag
	for _, v := range l {
		out = append(out, read(v))
	}
	return out
}

// readSpecial is the tag of what stands behind the atom * in a list.
func readSpecial(l []api.Sexp) api.Tag {
	if len(l) == 0 {
		return api.Tag{Kind: api.TagAll}
	}
	word, rest := string(readAtom(l[0])), l[1:]
	switch word {
	case set:
		return api.Tag{Kind: api.TagSet, Kids: readAll(rest)}
	case prefix:
		must(len(rest) == 1)
		return api.Tag{Kind: api.TagPrefix, Data: readAtom(rest[0])}
	case span:
		return api.Tag{Kind: api.TagRange, Range: readRange(rest)}
	}
	panic(api.ErrTag)
}

// readRange is the range of an order's name and its ends.
func readRange(l []api.Sexp) api.Range {
	must(len(l) > 0)
	r := api.Range{Order: readOrder(string(readAtom(l[0])))}
	rest := l[1:]
	r.Lo, rest = readEnd(rest, above)
	r.Hi, rest = readEnd(rest, below)
	must(len(rest) == 0 && order.May(r))
	return r
}

// readOrder is the order of a name.
func readOrder(name string) uint8 {
	for o, known := range orders {
		if name == known {
			return uint8(o)
		}
	}
	panic(api.ErrTag)
}

// readEnd is the end of a side that stands first in a list, if one does, and what stands behind it.
func readEnd(l []api.Sexp, side string) (api.Bound, []api.Sexp) {
	if len(l) < 2 {
		return api.Bound{}, l
	}
	word := string(readAtom(l[0]))
	if word != side && word != side+closed {
		return api.Bound{}, l
	}
	return api.Bound{Is: true, Open: word == side, At: readAtom(l[1])}, l[2:]
}
