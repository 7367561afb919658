package sexp

import (
	"bytes"
	"strings"

	"greffier/api"
	"greffier/octet"
)

// What is thrown where reading can't go on is the place; its type tells why.
type (
	missing int // the bytes are over
	strange int // another byte stands there than may
	tooMuch int // what begins there is beyond a limit
	behind  int // the value is over
)

// Get is the value of a canonical form.
func Get(b []byte) (v api.Sexp, at int, e api.Errno) {
	defer func() {
		switch place := recover().(type) {
		case nil:
		case missing:
			at, e = int(place), api.ErrShort
		case strange:
			at, e = int(place), api.ErrForm
		case tooMuch:
			at, e = int(place), api.ErrLong
		case behind:
			at, e = int(place), api.ErrMore
		default:
			// A fault of the program's own must not pass for an answer.
			panic(place)
		}
	}()
	return readAll(b), 0, api.OK
}

// readAll reads bytes that are a value's canonical form, or throws.
func readAll(b []byte) api.Sexp {
	if len(b) > api.MaxBytes {
		panic(tooMuch(api.MaxBytes))
	}
	r := reader{b: b}
	v := r.value(0)
	if r.at < len(b) {
		panic(behind(r.at))
	}
	return v
}

// reader goes through bytes from the front.
type reader struct {
	b     []byte
	at    int
	nodes int
}

// value reads a value that stands within so many lists.
func (r *reader) value(around int) api.Sexp {
	first := r.peek()
	// A byte that begins no value is strange, even where none more may begin.
	if !beginsValue(first) {
		panic(strange(r.at))
	}
	if r.nodes >= api.MaxNodes || first == '(' && around >= api.MaxDeep {
		panic(tooMuch(r.at))
	}
	r.nodes++
	switch first {
	case '(':
		return r.list(around)
	case '[':
		return r.hinted()
	}
	return api.Sexp{Data: r.bytes()}
}

// beginsValue tells whether a value may begin with a byte.
func beginsValue(c byte) bool {
	return strings.IndexByte("([0123456789", c) >= 0
}

// list reads a list that stands within so many others.
func (r *reader) list(around int) api.Sexp {
	v := api.Sexp{List: true}
	r.expect('(')
	for r.peek() != ')' {
		v.Kids = append(v.Kids, r.value(around+1))
	}
	r.expect(')')
	return v
}

// hinted reads an atom with a hint.
func (r *reader) hinted() api.Sexp {
	v := api.Sexp{Hinted: true}
	r.expect('[')
	v.Hint = r.bytes()
	r.expect(']')
	v.Data = r.bytes()
	return v
}

// bytes reads a length and so many bytes.
func (r *reader) bytes() []byte {
	n := r.length()
	r.expect(':')
	if n > len(r.b)-r.at {
		panic(missing(len(r.b)))
	}
	data := bytes.Clone(r.b[r.at : r.at+n])
	r.at += n
	return data
}

// length reads a length.
func (r *reader) length() int {
	n, next, e := octet.GetLen(r.b, r.at, api.MaxBytes)
	switch e {
	case api.OK:
	case api.ErrShort:
		panic(missing(r.at))
	case api.ErrLong:
		panic(tooMuch(r.at))
	default:
		panic(strange(r.at))
	}
	r.at = next
	return n
}

// expect goes past a byte that must stand here.
func (r *reader) expect(c byte) {
	if r.peek() != c {
		panic(strange(r.at))
	}
	r.at++
}

// peek is the byte that stands here.
func (r *reader) peek() byte {
	if r.at >= len(r.b) {
		panic(missing(len(r.b)))
	}
	return r.b[r.at]
}
