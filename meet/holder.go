package meet

import (
	"bytes"
	"slices"

	"greffier/api"
	"greffier/order"
	"greffier/tag"
)

// A holder holds tags that may be against each other, as long as pairs are left.
type holder struct{ left int }

// meet is the meeting of a pair, with whose memory it shares; too much is thrown.
func (h *holder) meet(first, other api.Tag) api.Tag {
	h.left--
	must(h.left >= 0)
	both := h.hold(first, other)
	must(tag.May(both))
	return both
}

// hold is the meeting of a pair, whether it may be or not.
func (h *holder) hold(first, other api.Tag) api.Tag {
	switch {
	case first.Kind == api.TagAll:
		return other
	case other.Kind == api.TagAll:
		return first
	case first.Kind == api.TagSet || other.Kind == api.TagSet:
		return h.meetSets(first, other)
	case isAllowed(first, other):
		return first
	case isAllowed(other, first):
		return other
	case first.Kind != other.Kind:
		return nothing()
	}
	switch first.Kind {
	case api.TagList:
		return h.meetLists(first, other)
	case api.TagPrefix:
		return meetPrefixes(first, other)
	case api.TagRange:
		return meetRanges(first, other)
	}
	return nothing()
}

// meetSets is the meeting of two tags, one of which is a set at least.
func (h *holder) meetSets(first, other api.Tag) api.Tag {
	var out []api.Tag
	eachKid(first, func(x api.Tag) {
		eachKid(other, func(y api.Tag) {
			eachKid(h.meet(x, y), func(both api.Tag) { out = append(out, both) })
		})
	})
	if len(out) == 1 {
		return out[0]
	}
	return api.Tag{Kind: api.TagSet, Kids: out}
}

// eachKid hands a set's parts on to a function; what is no set as it is.
func eachKid(t api.Tag, do func(api.Tag)) {
	if t.Kind != api.TagSet {
		do(t)
		return
	}
	for _, kid := range t.Kids {
		do(kid)
	}
}

// meetLists is the meeting of two lists.
func (h *holder) meetLists(first, other api.Tag) api.Tag {
	if len(first.Kids) < len(other.Kids) {
		first, other = other, first
	}
	out := slices.Clone(first.Kids)
	for i := range out {
		if i < len(other.Kids) {
			out[i] = h.meet(out[i], other.Kids[i])
		}
		if Nothing(out[i]) {
			return nothing()
		}
	}
	return api.Tag{Kind: api.TagList, Kids: out}
}

// meetPrefixes is the meeting of two prefixes.
func meetPrefixes(first, other api.Tag) api.Tag {
	switch {
	case bytes.HasPrefix(first.Data, other.Data):
		return first
	case bytes.HasPrefix(other.Data, first.Data):
		return other
	}
	return nothing()
}

// meetRanges is the meeting of two ranges.
func meetRanges(first, other api.Tag) api.Tag {
	both, ok := order.Meet(first.Range, other.Range)
	if !ok || order.Empty(both) {
		return nothing()
	}
	return api.Tag{Kind: api.TagRange, Range: both}
}

// nothing is a set of nothing.
func nothing() api.Tag { return api.Tag{Kind: api.TagSet} }

// copied is the same tag in new memory.
func copied(t api.Tag) api.Tag {
	t.Data = bytes.Clone(t.Data)
	t.Range.Lo.At = bytes.Clone(t.Range.Lo.At)
	t.Range.Hi.At = bytes.Clone(t.Range.Hi.At)
	t.Kids = slices.Clone(t.Kids)
	for i, kid := range t.Kids {
		t.Kids[i] = copied(kid)
	}
	return t
}
