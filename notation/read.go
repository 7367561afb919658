package notation

import (
	"bytes"
	"strings"

	"greffier/api"
	"greffier/octet"
	"greffier/sexp"
)

// What is thrown where reading can't go on tells the place; its type tells why.
type (
	missing int // the text is over
	strange int // another byte stands there than may
	tooMuch int // what begins there, or ends there, is beyond a limit
	behind  int // the value is over
)

// packed is thrown where bytes end that were packed and aren't a canonical form.
type packed struct {
	at  int
	why api.Errno
}

// Read is the value of an advanced form.
func Read(s string) (api.Sexp, int, api.Errno) {
	return read(s, (*reader).advanced)
}

// Unpack is the value of a transport form.
func Unpack(s string) (api.Sexp, int, api.Errno) {
	return read(s, (*reader).transport)
}

// read is the value of a text of the form that a function reads.
func read(s string, form func(*reader) api.Sexp) (v api.Sexp, at int, e api.Errno) {
	defer func() {
		switch place := recover().(type) {
		case nil:
		case missing:
			at, e = int(place), api.ErrShort
		case strange:
			at, e = int(place), api.ErrForm
		case tooMuch:
			at, e = int(place), api.ErrLong
		case behind:
			at, e = int(place), api.ErrMore
		case packed:
			at, e = place.at, place.why
		default:
			// A fault of the program's own must not pass for an answer.
			panic(place)
		}
	}()
	return readAll(s, form), 0, api.OK
}

// readAll reads a text that is of a form as a whole, or throws.
func readAll(s string, form func(*reader) api.Sexp) api.Sexp {
	if len(s) > api.MaxText {
		panic(tooMuch(api.MaxText))
	}
	r := &reader{b: []byte(s)}
	v := form(r)
	r.run(oneOf(blanks))
	if r.at < len(r.b) {
		panic(behind(r.at))
	}
	// How deep and how many was told on the way, how many bytes can be told only now.
	if !sexp.May(v) {
		panic(tooMuch(len(r.b)))
	}
	return v
}

// reader goes through a text from the front.
type reader struct {
	b     []byte
	at    int
	nodes int
}

// advanced reads a value's advanced form.
func (r *reader) advanced() api.Sexp { return r.value(0) }

// transport reads a value's transport form, without the blanks behind.
func (r *reader) transport() api.Sexp {
	r.expect('{')
	b := r.signs('}', oneOf(base64Signs), octet.Unbase64)
	v, _, e := sexp.Get(b)
	if e != api.OK {
		panic(packed{at: r.at, why: e})
	}
	r.expect('}')
	return v
}

// value reads a value that stands within so many lists.
func (r *reader) value(around int) api.Sexp {
	first := r.part()
	// A byte that begins no value is strange, even where none more may begin.
	if !beginsValue(first) {
		panic(strange(r.at))
	}
	if r.nodes >= api.MaxNodes || first == '(' && around >= api.MaxDeep {
		panic(tooMuch(r.at))
	}
	r.nodes++
	switch first {
	case '(':
		return r.list(around)
	case '[':
		return r.hinted()
	}
	return api.Sexp{Data: r.plain()}
}

// beginsValue tells whether a value may begin with a byte.
func beginsValue(c byte) bool {
	return c == '(' || c == '[' || plainReader(c) != nil
}

// list reads a list that stands within so many others.
func (r *reader) list(around int) api.Sexp {
	v := api.Sexp{List: true}
	r.expect('(')
	for r.part() != ')' {
		v.Kids = append(v.Kids, r.value(around+1))
	}
	r.expect(')')
	return v
}

// hinted reads an atom with a hint.
func (r *reader) hinted() api.Sexp {
	v := api.Sexp{Hinted: true}
	r.expect('[')
	v.Hint = r.plain()
	r.expect(']')
	v.Data = r.plain()
	return v
}

// plain reads a plain atom.
func (r *reader) plain() []byte {
	read := plainReader(r.part())
	if read == nil {
		panic(strange(r.at))
	}
	return read(r)
}

// plainReader is what reads a plain atom that begins with a byte; nil, if none does.
func plainReader(first byte) func(*reader) []byte {
	switch {
	case oneOf(digits)(first):
		return (*reader).counted
	case oneOf(tokenSigns)(first):
		return (*reader).token
	case first == '"':
		return (*reader).quoted
	case first == '#':
		return (*reader).hex
	case first == '|':
		return (*reader).base64
	}
	return nil
}

// counted reads a length, and so many bytes.
func (r *reader) counted() []byte {
	n, next, e := octet.GetLen(r.b, r.at, api.MaxBytes)
	if e != api.OK {
		// A digit stands here, so that it can only be too high.
		panic(tooMuch(r.at))
	}
	r.at = next
	if r.next() != ':' {
		panic(strange(r.at))
	}
	r.at++
	if n > len(r.b)-r.at {
		panic(missing(len(r.b)))
	}
	data := bytes.Clone(r.b[r.at : r.at+n])
	r.at += n
	return data
}

// token reads a token.
func (r *reader) token() []byte { return r.run(oneOf(tokenSigns)) }

// quoted reads bytes in quotes.
func (r *reader) quoted() []byte {
	var data []byte
	r.expect('"')
	for r.next() != '"' {
		c := r.next()
		r.at++
		if c == '\\' {
			c = r.escaped()
		}
		data = append(data, c)
	}
	r.at++
	return data
}

// escaped reads the byte that is told behind a backslash.
func (r *reader) escaped() byte {
	const signs, meant = `btvnfr"'\`, "\b\t\v\n\f\r\"'\\"
	c := r.next()
	if i := strings.IndexByte(signs, c); i >= 0 {
		r.at++
		return meant[i]
	}
	if c == 'x' {
		r.at++
		return r.digit(16)<<4 | r.digit(16)
	}
	return r.digit(4)<<6 | r.digit(8)<<3 | r.digit(8)
}

// digit reads a digit that is below a bound.
func (r *reader) digit(bound byte) byte {
	worth, e := octet.Unhex(string([]byte{'0', r.next()}))
	if e != api.OK || worth[0] >= bound {
		panic(strange(r.at))
	}
	r.at++
	return worth[0]
}

// hex reads bytes as hexadecimal digits.
func (r *reader) hex() []byte {
	r.expect('#')
	data := r.signs('#', oneOf(hexSigns), octet.Unhex)
	r.expect('#')
	return data
}

// base64 reads bytes as Base64.
func (r *reader) base64() []byte {
	r.expect('|')
	data := r.signs('|', oneOf(base64Signs), octet.Unbase64)
	r.expect('|')
	return data
}

// signs reads signs that may be, and blanks, up to an end, and tells which bytes they mean.
func (r *reader) signs(end byte, may func(c byte) bool, meant func(s string) ([]byte, api.Errno)) []byte {
	var all strings.Builder
	for r.part() != end {
		if !may(r.next()) {
			panic(strange(r.at))
		}
		all.Write(r.run(may))
	}
	data, e := meant(all.String())
	if e != api.OK {
		panic(strange(r.at))
	}
	return data
}

// expect goes past a byte that must stand here, or behind blanks.
func (r *reader) expect(c byte) {
	if r.part() != c {
		panic(strange(r.at))
	}
	r.at++
}

// part is the first byte of the next part, behind blanks.
func (r *reader) part() byte {
	r.run(oneOf(blanks))
	return r.next()
}

// next is the byte that stands here.
func (r *reader) next() byte {
	if r.at >= len(r.b) {
		panic(missing(len(r.b)))
	}
	return r.b[r.at]
}

// run goes past all bytes that follow and are as a function says, and tells which they are.
func (r *reader) run(is func(c byte) bool) []byte {
	start := r.at
	for r.at < len(r.b) && is(r.b[r.at]) {
		r.at++
	}
	return bytes.Clone(r.b[start:r.at])
}
