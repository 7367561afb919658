package notation_test

import (
	"encoding/base64"
	"encoding/hex"
	"regexp"
	"strconv"
	"strings"

	"greffier/api"
	"greffier/sexp"
)

// answer is what a text is read as: a canonical form, or a place and an error.
type answer struct {
	form string
	at   int
	e    api.Errno
}

// What the second reader waits for.
const (
	aValue = iota
	aPlain
	aBracket
	theToken
	theLength
	theColon
	theData
	theQuoted
	theEscaped
	theDigits
	theHex
	theBase64
	theEnd
)

// second is a reader of advanced forms that is handed a byte at a time, and writes the canonical form.
type second struct {
	state, depth, nodes int
	inHint              bool
	start, n            int    // where a length began, and what is left of it
	left, base, worth   int    // how many digits are left behind a backslash, of which base, and what they are worth
	got                 []byte // what is read of a plain atom
	out                 strings.Builder
}

var (
	isBlank  = bytesLike(`[\t-\r ]`)
	isToken  = bytesLike(`[A-Za-z0-9./_:*+=-]`)
	isBase64 = bytesLike(`[A-Za-z0-9+/=]`)
	isHex    = bytesLike(`[A-Fa-f0-9]`)
	isDigit  = bytesLike(`[0-9]`)
)

// bytesLike tells of each byte whether an expression is like it.
func bytesLike(expression string) (is [256]bool) {
	for c := range is {
		is[c] = regexp.MustCompile("^" + expression + "$").Match([]byte{byte(c)})
	}
	return is
}

// wantRead is what Read must answer.
func wantRead(s string) answer {
	if len(s) > api.MaxText {
		return answer{at: api.MaxText, e: api.ErrLong}
	}
	var m second
	for i := range len(s) {
		// A byte that ends something, and is no part of it, is handed over twice.
		for again := true; again; {
			var at int
			var e api.Errno
			if again, at, e = m.take(i, s[i]); e != api.OK {
				return answer{at: at, e: e}
			}
		}
	}
	if m.state == theToken {
		m.plain()
	}
	if m.state != theEnd {
		return answer{at: len(s), e: api.ErrShort}
	}
	if m.out.Len() > api.MaxBytes {
		return answer{at: len(s), e: api.ErrLong}
	}
	return answer{form: m.out.String()}
}

// plain is at the end of a plain atom.
func (m *second) plain() {
	m.out.WriteString(strconv.Itoa(len(m.got)) + ":" + string(m.got))
	m.got = nil
	if m.inHint {
		m.state = aBracket
		return
	}
	m.value()
}

// value is at the end of a value.
func (m *second) value() {
	if m.state = aValue; m.depth == 0 {
		m.state = theEnd
	}
}

// take takes the byte at a place: whether it wants it again, or the place and the error.
func (m *second) take(i int, c byte) (bool, int, api.Errno) {
	blank := isBlank[c]
	switch m.state {
	case theEnd:
		if !blank {
			return false, i, api.ErrMore
		}
		return false, 0, api.OK
	case aValue, aPlain, aBracket:
		if blank {
			return false, 0, api.OK
		}
		return m.begin(i, c)
	case theToken:
		if !isToken[c] {
			m.plain()
			return true, 0, api.OK
		}
		m.got = append(m.got, c)
		return false, 0, api.OK
	case theHex, theBase64:
		if blank {
			return false, 0, api.OK
		}
	}
	return m.inside(i, c)
}

// begin takes a byte that isn't within a plain atom, nor a blank.
func (m *second) begin(i int, c byte) (bool, int, api.Errno) {
	if m.state == aBracket {
		if c != ']' {
			return false, i, api.ErrForm
		}
		m.state, m.inHint = aPlain, false
		m.out.WriteByte(c)
		return false, 0, api.OK
	}
	if m.state == aValue && c == ')' && m.depth > 0 {
		m.depth--
		m.out.WriteByte(c)
		m.value()
		return false, 0, api.OK
	}
	opens := m.state == aValue && (c == '(' || c == '[')
	if !opens && c != '"' && c != '#' && c != '|' && !isToken[c] {
		return false, i, api.ErrForm
	}
	if m.state == aValue {
		if m.nodes++; m.nodes > api.MaxNodes || c == '(' && m.depth == api.MaxDeep {
			return false, i, api.ErrLong
		}
	}
	if opens {
		m.out.WriteByte(c)
		if c == '[' {
			m.state, m.inHint = aPlain, true
		} else {
			m.depth++
		}
		return false, 0, api.OK
	}
	switch c {
	case '"':
		m.state = theQuoted
	case '#':
		m.state = theHex
	case '|':
		m.state = theBase64
	default:
		m.state, m.start, m.n = theToken, i, -1
		if isDigit[c] {
			m.state = theLength
		}
		return true, 0, api.OK
	}
	return false, 0, api.OK
}

// inside takes a byte within a plain atom.
func (m *second) inside(i int, c byte) (bool, int, api.Errno) {
	wrong := false
	switch m.state {
	case theLength:
		if !isDigit[c] || m.n == 0 {
			m.state = theColon
			return true, 0, api.OK
		}
		if m.n = 10*max(m.n, 0) + int(c-'0'); m.n > api.MaxBytes {
			return false, m.start, api.ErrLong
		}
	case theColon:
		wrong = c != ':'
		if m.state = theData; m.n == 0 {
			m.plain()
		}
	case theData:
		m.got = append(m.got, c)
		if m.n--; m.n == 0 {
			m.plain()
		}
	case theQuoted:
		switch c {
		case '"':
			m.plain()
		case '\\':
			m.state = theEscaped
		default:
			m.got = append(m.got, c)
		}
	case theEscaped:
		wrong = !m.escaped(c)
	case theDigits:
		wrong = !m.digit(c, m.base)
	case theHex:
		if c == '#' {
			b, err := hex.DecodeString(string(m.got))
			wrong, m.got = err != nil, b
			m.plain()
		} else {
			wrong, m.got = !isHex[c], append(m.got, c)
		}
	case theBase64:
		if c == '|' {
			b, err := base64.StdEncoding.Strict().DecodeString(string(m.got))
			wrong, m.got = err != nil, b
			m.plain()
		} else {
			wrong, m.got = !isBase64[c], append(m.got, c)
		}
	}
	if wrong {
		return false, i, api.ErrForm
	}
	return false, 0, api.OK
}

var means = map[byte]byte{'b': 8, 't': 9, 'v': 11, 'n': 10, 'f': 12, 'r': 13, '"': '"', '\'': '\'', '\\': '\\'}

// escaped takes the byte behind a backslash, and tells whether it may stand there.
func (m *second) escaped(c byte) bool {
	if b, ok := means[c]; ok {
		m.state, m.got = theQuoted, append(m.got, b)
		return true
	}
	m.state, m.worth = theDigits, 0
	if c == 'x' {
		m.base, m.left = 16, 2
		return true
	}
	m.base, m.left = 8, 3
	return m.digit(c, 4)
}

// digit takes a digit behind a backslash, and tells whether it is below a bound.
func (m *second) digit(c byte, bound int) bool {
	n, err := strconv.ParseUint(string([]byte{c}), 16, 8)
	m.worth = m.worth*m.base + int(n)
	if m.left--; m.left == 0 {
		m.state, m.got = theQuoted, append(m.got, byte(m.worth))
	}
	return err == nil && int(n) < bound
}

var transport = regexp.MustCompile(`^([\t-\r ]*)(\{?)([A-Za-z0-9+/=\t-\r ]*)(\}?)([\t-\r ]*)`)

// wantUnpack is what Unpack must answer.
func wantUnpack(s string) answer {
	if len(s) > api.MaxText {
		return answer{at: api.MaxText, e: api.ErrLong}
	}
	places := transport.FindStringSubmatchIndex(s)
	if places[4] == places[5] {
		return short(s, places[4])
	}
	if places[8] == places[9] {
		return short(s, places[8])
	}
	signs := strings.Join(strings.Fields(s[places[6]:places[7]]), "")
	b, err := base64.StdEncoding.Strict().DecodeString(signs)
	if err != nil {
		return answer{at: places[8], e: api.ErrForm}
	}
	if _, _, e := sexp.Get(b); e != api.OK {
		return answer{at: places[8], e: e}
	}
	if places[1] < len(s) {
		return answer{at: places[1], e: api.ErrMore}
	}
	return answer{form: string(b)}
}

// short is the answer where a sign must stand and doesn't.
func short(s string, at int) answer {
	if at == len(s) {
		return answer{at: at, e: api.ErrShort}
	}
	return answer{at: at, e: api.ErrForm}
}
