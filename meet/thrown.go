package meet

import "greffier/api"

// caught is a tag that is made; or the error, where it is thrown that this is too much.
func caught(made func() api.Tag) (t api.Tag, e api.Errno) {
	defer func() {
		if thrown := recover(); thrown != nil {
			// Anything else is a fault of the program's own, and must not pass for an answer: it is thrown on.
			e = thrown.(api.Errno)
		}
	}()
	return made(), api.OK
}

// must throws that it is too much, unless something holds.
func must(holds bool) {
	if !holds {
		panic(api.ErrLong)
	}
}
