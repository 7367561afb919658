package tag

import (
	"slices"

	"greffier/api"
)

// caught is what is made of something; or the error, where it is thrown that there is none.
func caught[From, To any](turn func(From) To, from From) (to To, e api.Errno) {
	defer func() {
		if thrown := recover(); thrown != nil {
			// Anything else is a fault of the program's own, and must not pass for an answer: it is thrown on.
			e = thrown.(api.Errno)
		}
	}()
	return turn(from), api.OK
}

// must throws that there is no tag, unless something holds.
func must(holds bool) {
	if !holds {
		panic(api.ErrTag)
	}
}

// someTag tells whether a tag, or a part of it, is as a function tells, which is asked of a tag ahead of its parts.
func someTag(t api.Tag, is func(api.Tag) bool) bool {
	return is(t) || slices.ContainsFunc(t.Kids, func(kid api.Tag) bool { return someTag(kid, is) })
}

// someValue tells whether a value, or a part of it, is as a function tells.
func someValue(v api.Sexp, is func(api.Sexp) bool) bool {
	return is(v) || slices.ContainsFunc(v.Kids, func(kid api.Sexp) bool { return someValue(kid, is) })
}
