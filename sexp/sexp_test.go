package sexp_test

import (
	"bytes"
	"math/rand"
	"slices"
	"strconv"
	"strings"
	"testing"

	"greffier/api"
	"greffier/sexp"
)

// hinted is an atom with a hint.
func hinted(hint, data string) api.Sexp {
	return api.Sexp{Hinted: true, Hint: []byte(hint), Data: []byte(data)}
}

// nested is a value within so many lists.
func nested(n int, v api.Sexp) api.Sexp {
	for range n {
		v = api.Sexp{List: true, Kids: []api.Sexp{v}}
	}
	return v
}

// many is a list of so many same values.
func many(n int, v api.Sexp) api.Sexp {
	return api.Sexp{List: true, Kids: slices.Repeat([]api.Sexp{v}, n)}
}

// long is an atom of so many bytes.
func long(n int) api.Sexp {
	return sexp.Atom(strings.Repeat("x", n))
}

// within is a text within so many brackets.
func within(n int, s string) string {
	return strings.Repeat("(", n) + s + strings.Repeat(")", n)
}

// pairs are values that may be, and their canonical forms.
func pairs() map[string]api.Sexp {
	x := sexp.Atom("x")
	return map[string]api.Sexp{
		"0:":                                sexp.Atom(""),
		"1:x":                               x,
		"3:abc":                             sexp.Atom("abc"),
		"10:0123456789":                     sexp.Atom("0123456789"),
		"3:(:)":                             sexp.Atom("(:)"),
		"4:\x00\xff]\n":                     sexp.Atom("\x00\xff]\n"),
		"[0:]0:":                            hinted("", ""),
		"[0:]1:x":                           hinted("", "x"),
		"[1:x]0:":                           hinted("x", ""),
		"[4:text]2:hi":                      hinted("text", "hi"),
		"[1:]]1:[":                          hinted("]", "["),
		"[12:0123456789ab]1:x":              hinted("0123456789ab", "x"),
		"()":                                sexp.List(),
		"(3:abc1:x)":                        sexp.List(sexp.Atom("abc"), x),
		"(()(1:x))":                         sexp.List(sexp.List(), sexp.List(x)),
		"(1:x()1:x)":                        sexp.List(x, sexp.List(), x),
		"([0:]0:[1:x]1:x0:)":                sexp.List(hinted("", ""), hinted("x", "x"), sexp.Atom("")),
		within(16, ""):                      nested(15, sexp.List()),
		within(16, "1:x"):                   nested(16, x),
		within(16, "[1:x]0:1:x"):            nested(15, sexp.List(hinted("x", ""), x)),
		within(15, "()1:x()"):               nested(14, sexp.List(sexp.List(), x, sexp.List())),
		within(1, lots(511, "0:")):          many(511, sexp.Atom("")),
		within(1, lots(511, "()")):          many(511, sexp.List()),
		within(1, lots(511, "[0:]0:")):      many(511, hinted("", "")),
		within(2, lots(510, "0:")):          nested(1, many(510, sexp.Atom(""))),
		within(1, lots(255, "(0:)")):        many(255, nested(1, sexp.Atom(""))),
		"4091:" + lots(4091, "x"):           long(4091),
		"(4089:" + lots(4089, "x") + ")":    sexp.List(long(4089)),
		"[1:x]4086:" + lots(4086, "x"):      hinted("x", lots(4086, "x")),
		"[4086:" + lots(4086, "x") + "]1:x": hinted(lots(4086, "x"), "x"),
		within(1, lots(40, "99:"+lots(99, "x"))+"11:"+lots(11, "x")):            sexp.List(append(many(40, long(99)).Kids, long(11))...),
		within(1, lots(2, "990:"+lots(990, "x"))+"[999:"+lots(999, "x")+"]1:x"): sexp.List(long(990), long(990), hinted(lots(999, "x"), "x")),
	}
}

// lots are so many same texts, one behind the other.
func lots(n int, s string) string { return strings.Repeat(s, n) }

// mayNot are values that may not be.
func mayNot() map[string]api.Sexp {
	kids := []api.Sexp{sexp.Atom("x")}
	x := []byte("x")
	bad := map[string]api.Sexp{
		"a list with data":           {List: true, Data: x},
		"a list with a hint":         {List: true, Hint: x},
		"a list that is hinted":      {List: true, Hinted: true},
		"a list, hinted, with both":  {List: true, Hinted: true, Hint: x, Data: x},
		"a list of kids, and data":   {List: true, Kids: kids, Data: x},
		"an atom with kids":          {Kids: kids},
		"an atom with data and kids": {Data: x, Kids: kids},
		"a hinted atom with kids":    {Hinted: true, Hint: x, Data: x, Kids: kids},
		"an atom that hides a hint":  {Hint: x},
		"data, and a hidden hint":    {Hint: x, Data: x},
	}
	out := map[string]api.Sexp{
		"17 deep":                     nested(17, sexp.Atom("")),
		"17 deep without an atom":     nested(16, sexp.List()),
		"17 deep behind others":       sexp.List(sexp.Atom(""), nested(16, sexp.Atom(""))),
		"1 << 16 deep":                nested(1<<16, sexp.Atom("")),
		"513 nodes":                   many(512, sexp.Atom("")),
		"513 lists":                   many(512, sexp.List()),
		"513 nodes with hints":        many(512, hinted("", "")),
		"513 nodes in lists of lists": many(256, nested(1, sexp.Atom(""))),
		"1 << 16 nodes":               many(1<<16, sexp.Atom("")),
		"4097 bytes":                  long(4092),
		"4097 bytes in a list":        sexp.List(long(4090)),
		"4097 bytes of both":          hinted("x", lots(4087, "x")),
		"4097 bytes, most a hint":     hinted(lots(4087, "x"), "x"),
		"4097 bytes of many":          sexp.List(append(many(40, long(99)).Kids, long(12))...),
		"1 << 20 bytes":               long(1 << 20),
		"a hint of 1 << 20 bytes":     hinted(lots(1<<20, "x"), ""),
	}
	for name, v := range bad {
		out[name] = v
		out[name+", in a list"] = nested(1, v)
		out[name+", behind others"] = api.Sexp{List: true, Kids: []api.Sexp{sexp.Atom("x"), sexp.List(), v}}
		out[name+", 16 deep"] = nested(16, v)
	}
	return out
}

func TestMayAndPut(t *testing.T) {
	for s, v := range pairs() {
		if !sexp.May(v) {
			t.Errorf("P2.1: May of %.60q: false", s)
		}
		if b, e := sexp.Put(v); e != api.OK || string(b) != s {
			t.Errorf("P2.1: Put of %.60q = %.60q, %v", s, b, e)
		}
	}
	for name, v := range mayNot() {
		if sexp.May(v) {
			t.Errorf("P2.1: May of %s: true", name)
		}
		if b, e := sexp.Put(v); e != api.ErrLong || b != nil {
			t.Errorf("P2.1: Put of %s = %.60q, %v; want none, ErrLong", name, b, e)
		}
	}
}

// A value's kids may be the very list in which it stands: it is too deep, and each call that is bound by the limits ends.
func TestValueInItself(t *testing.T) {
	kids := make([]api.Sexp, 3)
	v := api.Sexp{List: true, Kids: kids}
	for i := range kids {
		kids[i] = v
	}
	if sexp.May(v) {
		t.Error("P0.1: May of a value in itself: true")
	}
	if b, e := sexp.Put(v); e != api.ErrLong || b != nil {
		t.Errorf("P0.1: Put of a value in itself = %q, %v", b, e)
	}
	if sexp.Same(v, nested(17, sexp.List())) || sexp.Same(nested(17, sexp.List()), v) {
		t.Error("P0.1: Same of a value in itself: true")
	}
}

func TestThereAndBack(t *testing.T) {
	for s, v := range pairs() {
		got, at, e := sexp.Get([]byte(s))
		if e != api.OK || at != 0 || !same(got, v) {
			t.Errorf("P2.2: Get(%.60q) = %v, %d, %v", s, got, at, e)
		}
	}
}

// same is what Same must answer, told field by field.
func same(a, b api.Sexp) bool {
	if a.List != b.List || a.Hinted != b.Hinted || len(a.Kids) != len(b.Kids) {
		return false
	}
	for i := range a.Kids {
		if !same(a.Kids[i], b.Kids[i]) {
			return false
		}
	}
	return string(a.Hint) == string(b.Hint) && string(a.Data) == string(b.Data)
}

// answer is an error and its place.
type answer struct {
	at int
	e  api.Errno
}

func TestGetErrors(t *testing.T) {
	nodes := "(" + lots(511, "0:")
	deep := lots(16, "(")
	for s, want := range map[string]answer{
		// Something is missing.
		"": {0, api.ErrShort}, "(": {1, api.ErrShort}, "[": {1, api.ErrShort}, "0": {1, api.ErrShort},
		"3": {1, api.ErrShort}, "3:": {2, api.ErrShort}, "3:ab": {4, api.ErrShort}, "(3:ab)": {6, api.ErrShort},
		"(3:abc": {6, api.ErrShort}, "(()": {3, api.ErrShort}, "[1": {2, api.ErrShort}, "[1:": {3, api.ErrShort},
		"[1:a": {4, api.ErrShort}, "[2:a": {4, api.ErrShort}, "[1:a]": {5, api.ErrShort}, "[1:a]1": {6, api.ErrShort},
		"[1:a]1:": {7, api.ErrShort}, "([1:a]": {6, api.ErrShort}, "40": {2, api.ErrShort}, "4096": {4, api.ErrShort},
		"4096:": {5, api.ErrShort}, "4096:" + lots(4091, "x"): {4096, api.ErrShort}, "[4096:": {6, api.ErrShort},
		deep: {16, api.ErrShort}, nodes: {1023, api.ErrShort}, nodes[:1022]: {1022, api.ErrShort},
		// Another byte stands there than may.
		")": {0, api.ErrForm}, "]": {0, api.ErrForm}, ":": {0, api.ErrForm}, " 1:a": {0, api.ErrForm}, "a": {0, api.ErrForm},
		"-1:a": {0, api.ErrForm}, "+1:a": {0, api.ErrForm}, "{MTph}": {0, api.ErrForm}, "\x00": {0, api.ErrForm}, "\xff": {0, api.ErrForm},
		"03:abc": {1, api.ErrForm}, "00:": {1, api.ErrForm}, "3abc": {1, api.ErrForm}, "3 :abc": {1, api.ErrForm},
		"(]": {1, api.ErrForm}, "(:": {1, api.ErrForm}, "( )": {1, api.ErrForm}, "(3:abc ": {6, api.ErrForm}, "(3:abcd": {6, api.ErrForm},
		"[]": {1, api.ErrForm}, "[[": {1, api.ErrForm}, "[(": {1, api.ErrForm}, "[a": {1, api.ErrForm}, "[01:a]": {2, api.ErrForm},
		"[1:a}1:b": {4, api.ErrForm}, "[1:ab]": {4, api.ErrForm}, "[1:a)": {4, api.ErrForm}, "[1:a](": {5, api.ErrForm},
		"[1:a]()": {5, api.ErrForm}, "[1:a][1:a]1:b": {5, api.ErrForm}, "([1:a])": {6, api.ErrForm}, "[1:a] 1:b": {5, api.ErrForm},
		"[1:a]x": {5, api.ErrForm}, "[1:a]01:b": {6, api.ErrForm}, "[1:a]1b": {6, api.ErrForm},
		nodes + "x": {1023, api.ErrForm}, nodes + "]": {1023, api.ErrForm}, nodes + ":": {1023, api.ErrForm},
		deep + "x": {16, api.ErrForm}, deep + "]": {16, api.ErrForm},
		// Bytes stand behind the value.
		"1:ab": {3, api.ErrMore}, "0:0:": {2, api.ErrMore}, "()()": {2, api.ErrMore}, "())": {2, api.ErrMore}, "1:a ": {3, api.ErrMore},
		"1:a\x00": {3, api.ErrMore}, "[1:a]1:b]": {8, api.ErrMore}, within(16, "") + "(": {32, api.ErrMore}, nodes + "))": {1024, api.ErrMore},
		nodes + ")0:": {1024, api.ErrMore}, "()4097:": {2, api.ErrMore}, "4090:" + lots(4091, "x"): {4095, api.ErrMore},
		// A length is too high.
		"5000:": {0, api.ErrLong}, "4097": {0, api.ErrLong}, "4097x": {0, api.ErrLong}, "40960": {0, api.ErrLong}, "99999999999999999999:": {0, api.ErrLong},
		"18446744073709551617:a": {0, api.ErrLong}, "(4097:": {1, api.ErrLong}, "(1:a4097:": {4, api.ErrLong}, "[4097:": {1, api.ErrLong},
		"[0:]4097:": {4, api.ErrLong}, lots(4096, "9"): {0, api.ErrLong},
		// A value is too deep, or one too many.
		deep + "(": {16, api.ErrLong}, within(17, ""): {16, api.ErrLong}, within(15, "()(()"): {18, api.ErrLong}, deep + "0:(": {18, api.ErrLong},
		lots(4096, "("): {16, api.ErrLong}, nodes + "0": {1023, api.ErrLong}, nodes + "0:)": {1023, api.ErrLong}, nodes + "(": {1023, api.ErrLong},
		nodes + "[": {1023, api.ErrLong}, nodes + "4097": {1023, api.ErrLong}, nodes + "1x": {1023, api.ErrLong},
		"(" + lots(2000, "()"): {1023, api.ErrLong}, lots(2, "(") + lots(2000, "0:"): {1022, api.ErrLong},
		"(" + lots(600, "[0:]0:"): {1 + 511*6, api.ErrLong},
		// There are too many bytes at all.
		lots(4097, "("): {4096, api.ErrLong}, lots(4097, "x"): {4096, api.ErrLong}, "()" + lots(4095, "x"): {4096, api.ErrLong},
		"4092:" + lots(4092, "x"): {4096, api.ErrLong}, "5000:" + lots(5000, "x"): {4096, api.ErrLong}, lots(1<<16, "9"): {4096, api.ErrLong},
		"1:a" + lots(5000, " "): {4096, api.ErrLong}, within(1, lots(2048, "0:")): {4096, api.ErrLong},
	} {
		checkGet(t, s, want)
	}
}

// checkGet asks for an error, or for a value that is written as it stood, and checks that the place is the first one.
func checkGet(t *testing.T, s string, want answer) {
	t.Helper()
	v, at, e := sexp.Get([]byte(s))
	if at != want.at || e != want.e {
		t.Fatalf("P2.1: Get(%.60q) = %d, %v; want %d, %v", s, at, e, want.at, want.e)
	}
	if e != api.OK {
		if !same(v, api.Sexp{}) {
			t.Fatalf("P0.2: Get(%.60q) = %v beside %v", s, v, e)
		}
		return
	}
	if !sexp.May(v) {
		t.Fatalf("P2.2: Get(%.60q) = %v, that may not be", s, v)
	}
	if b, e := sexp.Put(v); e != api.OK || string(b) != s {
		t.Fatalf("P2.2: %.60q is read, and written %.60q, %v", s, b, e)
	}
}

// What wantGet waits for.
const (
	aValue = iota
	aLength
	aNext
	aColon
	theData
	aBracket
)

// wantGet is what Get must answer, found a byte at a time.
func wantGet(s string) answer {
	if len(s) > api.MaxBytes {
		return answer{api.MaxBytes, api.ErrLong}
	}
	state, depth, nodes, start, n, inHint := aValue, 0, 0, 0, 0, false
	done := false
	for i := 0; i < len(s); i++ {
		c := s[i]
		digit := c >= '0' && c <= '9'
		if done {
			return answer{i, api.ErrMore}
		}
		switch state {
		case aValue:
			if c == ')' && depth > 0 {
				depth--
				done = depth == 0
				continue
			}
			if c != '(' && c != '[' && !digit {
				return answer{i, api.ErrForm}
			}
			if nodes++; nodes > api.MaxNodes || c == '(' && depth == api.MaxDeep {
				return answer{i, api.ErrLong}
			}
			if c == '(' {
				depth++
			} else if state = aLength; c == '[' {
				inHint = true
			} else {
				i-- // the same byte again, as a length's
			}
		case aLength:
			if !digit {
				return answer{i, api.ErrForm}
			}
			start, n = i, int(c-'0')
			if state = aNext; n == 0 {
				state = aColon
			}
		case aNext, aColon:
			if c == ':' {
				state = theData
			} else if digit && state == aNext {
				if n = 10*n + int(c-'0'); n > api.MaxBytes {
					return answer{start, api.ErrLong}
				}
				continue
			} else {
				return answer{i, api.ErrForm}
			}
		case theData:
			n--
		case aBracket:
			if c != ']' {
				return answer{i, api.ErrForm}
			}
			state, inHint = aLength, false
			continue
		}
		if state == theData && n == 0 {
			if inHint {
				state = aBracket
			} else {
				state, done = aValue, depth == 0
			}
		}
	}
	if !done {
		return answer{len(s), api.ErrShort}
	}
	return answer{}
}

// eachText calls f with each text of up to so many of some signs.
func eachText(signs string, n int, f func(s string)) {
	f("")
	if n > 0 {
		for i := range len(signs) {
			eachText(signs, n-1, func(s string) { f(signs[i:i+1] + s) })
		}
	}
}

func TestGetShortTexts(t *testing.T) {
	eachText("()[]:0123", 5, func(s string) { checkGet(t, s, wantGet(s)) })
	eachText("()[:]1", 7, func(s string) { checkGet(t, s, wantGet(s)) })
	for c := range 256 {
		for _, before := range []string{"", "(", "[", "1", "1:", "[1:a", "[1:a]", "(1:a", "()", nested511()} {
			s := before + string([]byte{byte(c)})
			checkGet(t, s, wantGet(s))
			checkGet(t, s+"1:a)", wantGet(s+"1:a)"))
		}
	}
}

// nested511 are the bytes of a list and of 511 atoms in it, without its end.
func nested511() string { return "(" + lots(511, "0:") }

// random is some value that may be, if it isn't too great; the same ones each time.
func random(source *rand.Rand, deep int) api.Sexp {
	text := func() []byte {
		b := make([]byte, source.Intn(14))
		source.Read(b)
		return b
	}
	switch kind := source.Intn(5); {
	case kind < 3 && deep > 0:
		v := api.Sexp{List: true}
		for range source.Intn(5) {
			v.Kids = append(v.Kids, random(source, deep-1))
		}
		return v
	case kind == 3:
		return api.Sexp{Hinted: true, Hint: text(), Data: text()}
	}
	return api.Sexp{Data: text()}
}

func TestRandomValues(t *testing.T) {
	source := rand.New(rand.NewSource(2))
	for range 2000 {
		v := random(source, 1+source.Intn(8))
		b, e := sexp.Put(v)
		if !sexp.May(v) {
			if e != api.ErrLong || b != nil {
				t.Fatalf("P2.1: Put of what may not be: %.60q, %v", b, e)
			}
			continue
		}
		back, at, f := sexp.Get(b)
		if e != api.OK || f != api.OK || at != 0 || !same(back, v) {
			t.Fatalf("P2.2: %v is written %.60q, %v, and read %v, %d, %v", v, b, e, back, at, f)
		}
		if !sexp.Same(back, v) || !sexp.Same(sexp.Clone(v), v) {
			t.Fatalf("P2.1: Same of %v and what is read: false", v)
		}
		for range 20 {
			s := changed(source, b)
			checkGet(t, s, wantGet(s))
		}
	}
}

// changed are bytes with another one somewhere, one more, one less, or without what follows.
func changed(source *rand.Rand, b []byte) string {
	i := source.Intn(len(b))
	c := "()[]:0123456789a"[source.Intn(16)]
	out := slices.Clone(b)
	switch source.Intn(4) {
	case 0:
		out[i] = c
	case 1:
		out = slices.Insert(out, i, c)
	case 2:
		out = slices.Delete(out, i, i+1)
	case 3:
		out = out[:i]
	}
	return string(out)
}

// unlike are values, some of which may not be, no two of which are the same.
func unlike() []api.Sexp {
	x := []byte("x")
	kid := []api.Sexp{{Data: x}}
	return []api.Sexp{
		{}, {List: true}, {Hinted: true}, {Hint: x}, {Data: x}, {Kids: kid}, {Kids: []api.Sexp{{}}}, {Kids: []api.Sexp{{}, {}}},
		{Data: []byte("y")}, {Data: []byte("xx")}, {Data: []byte("X")}, {Data: []byte{0}}, {Hint: []byte("xx")}, {Hint: x, Data: x},
		{Hinted: true, Hint: x}, {Hinted: true, Data: x}, {Hinted: true, Hint: x, Data: x}, {Hinted: true, Hint: []byte{0}},
		{List: true, Hinted: true}, {List: true, Hint: x}, {List: true, Data: x}, {List: true, Kids: kid},
		{List: true, Kids: []api.Sexp{{}}}, {List: true, Kids: []api.Sexp{{}, {}}}, {List: true, Kids: []api.Sexp{{List: true}}},
		{List: true, Kids: []api.Sexp{{Data: x}, {}}}, {List: true, Kids: []api.Sexp{{}, {Data: x}}},
		{List: true, Kids: []api.Sexp{{Hinted: true, Data: x}}}, {List: true, Kids: []api.Sexp{{Hint: x}}},
		nested(16, sexp.Atom("x")), nested(17, sexp.Atom("x")), nested(17, sexp.Atom("y")), nested(17, hinted("", "x")),
		nested(1<<16, sexp.Atom("x")), nested(1<<16, sexp.Atom("y")), many(600, sexp.Atom("x")), many(601, sexp.Atom("x")), long(5000), long(5001),
	}
}

func TestSameAndClone(t *testing.T) {
	copies := unlike()
	for i, a := range unlike() {
		for j, b := range copies {
			if got := sexp.Same(a, b); got != (i == j) {
				t.Errorf("P2.1: Same of values %d and %d: %v", i, j, got)
			}
		}
		if got := sexp.Clone(a); !same(got, a) || !sexp.Same(got, a) {
			t.Errorf("P2.1: Clone of value %d is another one", i)
		}
	}
}

func TestAtomAndList(t *testing.T) {
	for _, s := range []string{"", "x", "abc", "\x00\xff", lots(5000, "x")} {
		if got := sexp.Atom(s); !same(got, api.Sexp{Data: []byte(s)}) {
			t.Errorf("P2.1: Atom(%.60q) = %v", s, got)
		}
	}
	if got := sexp.List(); !same(got, api.Sexp{List: true}) {
		t.Errorf("P2.1: List() = %v", got)
	}
	values := unlike()
	if got := sexp.List(values...); !same(got, api.Sexp{List: true, Kids: values}) {
		t.Error("P2.1: List of values has others")
	}
	for i, v := range values {
		if got := sexp.List(v); !same(got, api.Sexp{List: true, Kids: []api.Sexp{v}}) {
			t.Errorf("P2.1: List of value %d has another one", i)
		}
	}
}

// scribble writes into all memory of a value, behind its lists' ends, too.
func scribble(v api.Sexp) {
	for _, b := range [][]byte{v.Hint, v.Data} {
		b = b[:cap(b)]
		for i := range b {
			b[i] = '!'
		}
	}
	kids := v.Kids[:cap(v.Kids)]
	for i := range kids {
		scribble(kids[i])
		kids[i] = api.Sexp{Data: []byte("!")}
	}
}

// roomy is a value with room behind its lists' ends.
func roomy() api.Sexp {
	room := []byte("xyz")
	kids := []api.Sexp{{Data: room[0:1]}, {Hinted: true, Hint: room[1:2], Data: room[2:3]}, {Data: []byte("behind")}}
	return api.Sexp{List: true, Kids: kids[:2]}
}

const roomyForm = "(1:x[1:y]1:z)"

// check asks for a value's canonical form.
func check(t *testing.T, name string, v api.Sexp, want string) {
	t.Helper()
	if b, e := sexp.Put(v); e != api.OK || string(b) != want {
		t.Errorf("P0.3: %s is %.60q, %v; want %q", name, b, e, want)
	}
}

// P0.3: whoever writes into an answer changes nothing that was handed in, and no other answer.
func TestAnswersAreNew(t *testing.T) {
	v := roomy()
	clone, list := sexp.Clone(v), sexp.List(v, v)
	scribble(clone)
	check(t, "what was cloned", v, roomyForm)
	check(t, "a list of what was cloned", list, "("+roomyForm+roomyForm+")")
	scribble(list.Kids[0])
	check(t, "a list's second value", list.Kids[1], roomyForm)
	scribble(list)
	check(t, "what was put into a list", v, roomyForm)

	atom := sexp.Atom("x")
	other := sexp.List(atom)
	scribble(other)
	check(t, "an atom that was put into a list", atom, "1:x")
	scribble(sexp.List())
	check(t, "a list of nothing", sexp.List(), "()")

	b, _ := sexp.Put(v)
	again, _ := sexp.Put(v)
	clear(b[:cap(b)])
	if string(again) != roomyForm {
		t.Errorf("P0.3: another canonical form became %q", again)
	}
	check(t, "what was put", v, roomyForm)
}

// P0.3: lists of one answer share no memory: what is written into one, or behind its end, is in no other.
func TestAnswersShareNothing(t *testing.T) {
	in := []byte("(1:x[1:y]1:z(1:u1:v))")
	reads := map[string]func() api.Sexp{
		"Get":   func() api.Sexp { v, _, _ := sexp.Get(in); return v },
		"Clone": func() api.Sexp { v, _, _ := sexp.Get(in); return sexp.Clone(v) },
		"List":  func() api.Sexp { v, _, _ := sexp.Get(in); return sexp.List(v.Kids...) },
	}
	for name, read := range reads {
		for i := range 3 {
			v := read()
			scribble(v.Kids[i])
			for j, want := range []string{"1:x", "[1:y]1:z", "(1:u1:v)"} {
				if j != i {
					check(t, name+": a value beside what was changed", v.Kids[j], want)
				}
			}
		}
		v := read()
		scribble(api.Sexp{Data: v.Kids[1].Hint})
		check(t, name+": an atom of a changed hint", api.Sexp{Data: v.Kids[1].Data}, "1:z")
		scribble(v.Kids[2].Kids[0])
		check(t, name+": an atom beside a changed one", v.Kids[2].Kids[1], "1:v")
	}
	if string(in) != "(1:x[1:y]1:z(1:u1:v))" {
		t.Errorf("P0.3: what was handed in became %q", in)
	}
}

// P0.3: what is handed in isn't kept, and isn't changed, the room behind a list's end neither.
func TestArguments(t *testing.T) {
	in := []byte(roomyForm + "behind")
	v, at, e := sexp.Get(in[:len(roomyForm)])
	if at != 0 || e != api.OK || string(in) != roomyForm+"behind" {
		t.Errorf("P0.3: Get left %q: %d, %v", in, at, e)
	}
	clear(in)
	check(t, "what was read of bytes that were changed", v, roomyForm)

	given := roomy()
	clone, list := sexp.Clone(given), sexp.List(given)
	sexp.May(given)
	sexp.Put(given)
	sexp.Same(given, clone)
	if kids := given.Kids[:3]; string(kids[2].Data) != "behind" || string(kids[0].Data[:3]) != "xyz" {
		t.Errorf("P0.3: the room behind a list's end was changed: %v", kids)
	}
	check(t, "what was handed in", given, roomyForm)
	scribble(given)
	check(t, "a clone of what was changed", clone, roomyForm)
	check(t, "a list of what was changed", list, "("+roomyForm+")")
}

// P0.4: a nil list is the same as an empty one.
func TestNilIsEmpty(t *testing.T) {
	none, empty := []byte(nil), []byte{}
	for _, b := range [][]byte{none, empty} {
		checkGet(t, string(b), answer{0, api.ErrShort})
		if _, at, e := sexp.Get(b); at != 0 || e != api.ErrShort {
			t.Errorf("P0.4: Get of nothing: %d, %v", at, e)
		}
	}
	for _, v := range []api.Sexp{{}, {List: true}, {Hinted: true}} {
		full := v
		full.Hint, full.Data, full.Kids = empty, empty, []api.Sexp{}
		a, e := sexp.Put(v)
		b, f := sexp.Put(full)
		if !sexp.May(v) || !sexp.May(full) || e != api.OK || f != api.OK || !bytes.Equal(a, b) {
			t.Errorf("P0.4: %v is put %q, %v; with empty lists %q, %v", v, a, e, b, f)
		}
		if !sexp.Same(v, full) || !sexp.Same(full, v) || !sexp.Same(sexp.Clone(full), v) {
			t.Errorf("P0.4: %v and the same with empty lists aren't the same", v)
		}
	}
	if !sexp.Same(sexp.List(), sexp.List([]api.Sexp{}...)) {
		t.Error("P0.4: lists of none and of no values aren't the same")
	}
}

// P0.5: the same arguments come to the same answers.
func TestAgain(t *testing.T) {
	for _, s := range []string{"(1:x[1:y]1:z)", "(1:x", "1:xy", "(x", "5000:"} {
		v, at, e := sexp.Get([]byte(s))
		sexp.Get([]byte(strconv.Quote(s)))
		w, again, f := sexp.Get([]byte(s))
		if at != again || e != f || !same(v, w) {
			t.Errorf("P0.5: Get(%q) = %v, %d, %v, then %v, %d, %v", s, v, at, e, w, again, f)
		}
	}
}
