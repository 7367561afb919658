package meet

import (
	"bytes"
	"slices"

	"greffier/api"
	"greffier/order"
)

// allows tells whether a tag that may be allows a request.
func allows(t api.Tag, request api.Sexp) bool {
	switch t.Kind {
	case api.TagAll:
		return true
	case api.TagSet:
		return slices.ContainsFunc(t.Kids, func(kid api.Tag) bool { return allows(kid, request) })
	case api.TagList:
		n := len(t.Kids)
		return request.List && len(request.Kids) >= n && slices.EqualFunc(t.Kids, request.Kids[:n], allows)
	}
	return !request.List && allowsAtom(t, request.Data)
}

// allowsAtom tells whether a tag of one of the kinds that allow atoms alone allows one.
func allowsAtom(t api.Tag, data []byte) bool {
	switch t.Kind {
	case api.TagAtom:
		return bytes.Equal(data, t.Data)
	case api.TagPrefix:
		return bytes.HasPrefix(data, t.Data)
	}
	return order.In(t.Range, data)
}

// isAllowed tells whether a tag is an atom that another one allows.
func isAllowed(t, by api.Tag) bool {
	return t.Kind == api.TagAtom && allows(by, api.Sexp{Data: t.Data})
}

// within tells whether a tag that may be is seen to be within another one.
func within(a, b api.Tag) bool {
	switch {
	case b.Kind == api.TagAll:
		return true
	case a.Kind == api.TagSet:
		// If it is within one of the other set's parts, so are all of its own: these alone need to be asked.
		return !slices.ContainsFunc(a.Kids, func(kid api.Tag) bool { return !within(kid, b) })
	case b.Kind == api.TagSet:
		return slices.ContainsFunc(b.Kids, func(kid api.Tag) bool { return within(a, kid) })
	case a.Kind == api.TagAtom:
		return isAllowed(a, b)
	case a.Kind != b.Kind:
		return false
	case a.Kind == api.TagList:
		n := len(b.Kids)
		return len(a.Kids) >= n && slices.EqualFunc(a.Kids[:n], b.Kids, within)
	case a.Kind == api.TagPrefix:
		return bytes.HasPrefix(a.Data, b.Data)
	}
	return order.Within(a.Range, b.Range)
}
