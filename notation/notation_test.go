package notation_test

import (
	"encoding/base64"
	"encoding/hex"
	"math/rand"
	"slices"
	"strconv"
	"strings"
	"testing"

	"greffier/api"
	"greffier/notation"
	"greffier/sexp"
)

// lots are so many same texts, one behind the other.
func lots(n int, s string) string { return strings.Repeat(s, n) }

// within is a text within so many brackets.
func within(n int, s string) string { return lots(n, "(") + s + lots(n, ")") }

// atom is the canonical form of bytes.
func atom(s string) string { return strconv.Itoa(len(s)) + ":" + s }

// pack is the transport form of a canonical form.
func pack(form string) string {
	return "{" + base64.StdEncoding.EncodeToString([]byte(form)) + "}"
}

// value is the value of a canonical form.
func value(t *testing.T, form string) api.Sexp {
	t.Helper()
	v, _, e := sexp.Get([]byte(form))
	if e != api.OK {
		t.Fatalf("%.60q is no canonical form: %v", form, e)
	}
	return v
}

// check asks a reader for a value, or for an error and its place.
func check(t *testing.T, name string, read func(string) (api.Sexp, int, api.Errno), s string, want answer) {
	t.Helper()
	v, at, e := read(s)
	if at != want.at || e != want.e {
		t.Fatalf("P3.1: %s(%.60q) = %d, %v; want %d, %v", name, s, at, e, want.at, want.e)
	}
	if e != api.OK {
		if !sexp.Same(v, api.Sexp{}) {
			t.Fatalf("P0.2: %s(%.60q) = %v beside %v", name, s, v, e)
		}
		return
	}
	if !sexp.Same(v, value(t, want.form)) {
		t.Fatalf("P3.1: %s(%.60q) = %v; want %.60q", name, s, v, want.form)
	}
}

func checkRead(t *testing.T, s string, want answer) {
	t.Helper()
	check(t, "Read", notation.Read, s, want)
}

func checkUnpack(t *testing.T, s string, want answer) {
	t.Helper()
	check(t, "Unpack", notation.Unpack, s, want)
}

// advanced are advanced forms, and the canonical forms of their values.
func advanced() map[string]string {
	return map[string]string{
		// Lists, and blanks between all parts.
		"()": "()", " ( ) ": "()", "(a)": "(1:a)", "(a b c)": "(1:a1:b1:c)", "((a)b(c))": "((1:a)1:b(1:c))",
		"\t\n\v\f\r (\t\n\v\f\r a\t\n\v\f\r b\t\n\v\f\r )\t\n\v\f\r ": "(1:a1:b)",
		"(a\"b c\" #ff#)": "(1:a3:b c1:\xff)", "(\"a\"\"b\"#63##64#|ZQ==||Zg==|1:g1:hi j)": "(1:a1:b1:c1:d1:e1:f1:g1:h1:i1:j)",
		"(a b(c(d)e)f)": "(1:a1:b(1:c(1:d)1:e)1:f)", "(()()( ))": "(()()())",
		// Hints.
		"[a]b": "[1:a]1:b", " [ a ] b ": "[1:a]1:b", "[\t\n\v\f\r a\t\n\v\f\r ]\t\n\v\f\r b": "[1:a]1:b", "[\"\"]\"\"": "[0:]0:",
		"[1:a]1:b": "[1:a]1:b", "[0:]0:": "[0:]0:", "[#61#]|Yg==|": "[1:a]1:b", "[|YQ==|]#62#": "[1:a]1:b", "([a]b[c]d)": "([1:a]1:b[1:c]1:d)",
		"([a]b c)": "([1:a]1:b1:c)", "[1:]]1:]": "[1:]]1:]", "[\"]\"]\"[\"": "[1:]]1:[",
		// Lengths, and so many bytes.
		"0:": "0:", " 0: ": "0:", "3:abc": "3:abc", "3:   ": "3:   ", "1:\"": "1:\"", "2:\\n": "2:\\n", "3:(a)": "3:(a)", "3:\x00\x80\xff": "3:\x00\x80\xff",
		"10:0123456789": "10:0123456789", "(0:0:)": "(0:0:)", "(1:a1:b)": "(1:a1:b)", "(1:a b)": "(1:a1:b)", "(1:ab)": "(1:a1:b)", "(2: ))": "(2: ))",
		"4000:" + lots(4000, "("): "4000:" + lots(4000, "("),
		// Tokens.
		"a": "1:a", "abc": "3:abc", "-5": "2:-5", "a1:b": "4:a1:b", ":3": "2::3", "./_:*+=-": "8:./_:*+=-", "=": "1:=", "/x": "2:/x", "*": "1:*", ".0": "2:.0",
		letters: atom(letters), "x" + digits: atom("x" + digits), "_" + letters + digits: atom("_" + letters + digits), "(a(b)c[d]e)": "(1:a(1:b)1:c[1:d]1:e)",
		"(a#62#c|ZA==|e)": "(1:a1:b1:c1:d1:e)",
		// Quotes.
		`""`: "0:", `"a b"`: "3:a b", `"()[]{}#|"`: "8:()[]{}#|", `"'"`: "1:'", "\"\x00\n\x7f\x80\xff\"": "5:\x00\n\x7f\x80\xff",
		`"\b\t\v\n\f\r\"\'\\"`: "9:\x08\x09\x0b\x0a\x0c\x0d\"'\\", `"\000\001\010\077\100\377"`: "6:\x00\x01\x08\x3f\x40\xff",
		`"\1011"`: "2:A1", `"\x00\x0a\x0A\xff\xFF\x4a1"`: "7:\x00\x0a\x0a\xff\xff\x4a1", `"\\n"`: "2:\\n", `"\\\\"`: "2:\\\\", `"a\\"`: "2:a\\", `"\\\""`: "2:\\\"",
		`"\234\x9c"`: "2:\x9c\x9c",
		// Digits.
		"##": "0:", "# #": "0:", "#00#": "1:\x00", "#fF#": "1:\xff", "#0123456789abcdefABCDEF#": "11:\x01\x23\x45\x67\x89\xab\xcd\xef\xab\xcd\xef",
		"# 6 1\t\n\v\f\r6 2 #": "2:ab", "#" + lots(300, "61") + "#": atom(lots(300, "a")),
		// Base64.
		"||": "0:", "| |": "0:", "|YQ==|": "1:a", "|YWI=|": "2:ab", "|YWJj|": "3:abc", "| Y W\t\n\v\f\rI = |": "2:ab", "|YQ= =|": "1:a", "|+/+/|": "3:\xfb\xff\xbf",
		"|YWJjYQ==|": "4:abca", "|" + lots(200, "YWJj") + "|": atom(lots(200, "abc")),
		// The limits.
		within(16, ""): within(16, ""), within(16, " a "): within(16, "1:a"), within(15, "()a()"): within(15, "()1:a()"), within(16, "[a]b"): within(16, "[1:a]1:b"),
		within(1, lots(511, "a ")): within(1, lots(511, "1:a")), within(1, lots(511, "()")): within(1, lots(511, "()")),
		within(1, lots(511, "[a]b")): within(1, lots(511, "[1:a]1:b")),
		lots(4091, "a"):              atom(lots(4091, "a")), `"` + lots(4091, `\\`) + `"`: atom(lots(4091, `\`)), "#" + lots(4091, "00") + "#": atom(lots(4091, "\x00")),
		`"` + lots(4091, "\\001") + `"`: atom(lots(4091, "\x01")),
		"[" + lots(4086, "a") + "]b":    "[" + atom(lots(4086, "a")) + "]1:b", "4091:" + lots(4091, "x"): atom(lots(4091, "x")),
		"a" + lots(api.MaxText-1, " "): "1:a", lots(api.MaxText-1, "\n") + "a": "1:a", "(" + lots(api.MaxText-3, "\t") + "a)": "(1:a)",
		"#" + lots(api.MaxText-4, "\f") + "61#": "1:a", "[" + lots(api.MaxText-4, "\r") + "a]b": "[1:a]1:b",
	}
}

const (
	digits  = "0123456789"
	letters = "ABCDEFGHIJKLMNOPQRSTUVWXYZabcdefghijklmnopqrstuvwxyz"
)

func TestRead(t *testing.T) {
	for s, form := range advanced() {
		checkRead(t, s, answer{form: form})
	}
}

func TestReadErrors(t *testing.T) {
	nodes := "(" + lots(511, "a ")
	deep := lots(16, "(")
	long := lots(4092, "a")
	for e, texts := range map[api.Errno]map[string]int{
		api.ErrShort: {
			"": 0, " ": 1, "\t\n\v\f\r": 5, "(": 1, "( ": 2, "(a": 2, "(a ": 3, "(a b": 4, "(()": 3, "((a) ": 5, deep: 16, nodes: 1023,
			"[": 1, "[ ": 2, "[a": 2, "[a ": 3, "[a]": 3, "[a] ": 4, "([a]": 4, "[\"a\"": 4, "[1:a": 4,
			"0": 1, "3": 1, "12": 2, "3:": 2, "3:ab": 4, "(3:ab)": 6, "4096": 4, "4096:": 5, "4096:" + lots(4000, "x"): 4005, "[3:ab": 5, "[a]3:ab": 7, "[a]3": 4,
			`"`: 1, `"a`: 2, `"\`: 2, `"\"`: 3, `"\\\"`: 5, `"\0`: 3, `"\00`: 4, `"\000`: 5, `"\x`: 3, `"\x0`: 4, `"\x00`: 5, `"\n`: 3, `("a`: 3, `"(a)`: 4,
			"#": 1, "# ": 2, "#a": 2, "#ab": 3, "#abc ": 5, "|": 1, "| ": 2, "|YQ": 3, "|YQ==": 5, "|YR==": 5, "|=": 2, "(|YQ==": 6,
			lots(api.MaxText, " "): api.MaxText, `"` + lots(api.MaxText-1, "x"): api.MaxText,
		},
		api.ErrForm: {
			")": 0, " )": 1, "]": 0, "{": 0, "}": 0, "{MTph}": 0, ";": 0, ",": 0, "\\": 0, "'": 0, "\x00": 0, "\x08": 0, "\x0e": 0, "\x1f": 0, "!": 0, "$": 0, "%": 0,
			"&": 0, "<": 0, ">": 0,
			"?": 0, "@": 0, "^": 0, "`": 0, "~": 0, "\x7f": 0, "\x80": 0, "\x85": 0, "\xa0": 0, "\xc3\xa9": 0, "\xff": 0, "(a]": 2, "(a ]": 3, "(a, b)": 2, "(a;": 2,
			"(\xff": 1, "(a{": 2,
			nodes + "!": 1023, nodes + "]": 1023, deep + "!": 16, deep + "]": 16,
			"[]": 1, "[)": 1, "[ ]": 2, "[(": 1, "[[": 1, "[()]a": 1, "[[a]b]c": 1, "[a)": 2, "[a b]c": 3, "[a}": 2, "[a](": 3, "[a][": 3, "[a])": 3, "[a] (": 4,
			"([a])": 4, "[a]()": 3, "[a];": 3,
			"12x": 2, "1a": 1, "0x": 1, "1 :a": 1, "1 2:a": 1, "01:a": 1, "00:": 1, "012": 1, "1)": 1, "(1 a)": 2, "[1]a": 2, "3-": 1, "4096x": 4, "0 ": 1, "9(": 1,
			`"\q"`: 2, `"\400"`: 2, `"\8"`: 2, `"\4"`: 2, `"\a"`: 2, `"\ "`: 2, "\"\\\n\"": 2, "\"\\\x00\"": 2, `"\B"`: 2, `"\N"`: 2, `"\X00"`: 2, `"\u0041"`: 2, `"\(`: 2,
			`"\08"`: 3, `"\0"`: 3, `"\0\`: 3,
			`"\0a0"`: 3, `"\018"`: 4, `"\01"`: 4, `"\01x"`: 4, `"\37 "`: 4, `"\x"`: 3, `"\xg"`: 3, `"\x4g"`: 4, `"\x4"`: 4, `"\x 4"`: 3, `"\x4 "`: 4, `"\x-1"`: 3,
			`"\x4G"`: 4, `"\x1_"`: 4, "\"\\x\x104\"": 3, "\"\\\x100\"": 2,
			"#g#": 1, "#abg#": 3, "#ag#": 2, "#abcg#": 4, "#-1#": 1, "#0x#": 2, "#a|": 2, "#a\"#": 2, "#\x00#": 1, "#\x10#": 1, "#abc#": 4, "#a#": 2, "# a #": 4,
			"#a b c#": 6, "(#abc# #g#": 5, "[#a#]b": 3,
			"|Y!==|": 2, "|YQ-_|": 3, "|YQ#|": 3, "|(|": 1, "|YQ==)": 5, "|\x00|": 1, "|Y\xff|": 2, "|YR==|": 5, "|YWJ=|": 5, "|YWK=|": 5, "|Y|": 2, "|YQ|": 3, "|YQ=|": 4,
			"|YQ==YQ==|": 9, "|YQ===|": 6, "|YWJj=|": 6, "|=|": 2, "|====|": 5,
			"|Y===|": 5, "|=YWJ|": 5, "|YQ==YQ|": 7, "| Y W I |": 8, "(|YR==| #g#": 6, "[|YQ|]a": 4,
		},
		api.ErrMore: {
			"a b": 2, "a  b": 3, "a)": 1, "a(": 1, "a\"": 1, "a#": 1, "a\x00": 1, "a\xff": 1, "()a": 2, "()()": 2, "())": 2, "() ]": 3, "\"\"a": 2, "\"a\"\"": 3, "##a": 2,
			"#61#1": 4, "||a": 2, "1:ab": 3, "0:0:": 2,
			"[a]b c": 5, "[a]b]": 4, "1:a5000:": 3, "(a) (": 4, "a {": 2, within(16, "") + "(": 32, nodes + ") b": 1025, long + " !": 4093, long + ")": 4092,
			"a" + lots(api.MaxText-2, " ") + "b": api.MaxText - 1,
		},
		api.ErrLong: {
			// Lengths that are too high.
			"4097:": 0, "5000": 0, "4097x": 0, " 4097:": 1, "(4097:": 1, "(a 40970": 3, "[4097:": 1, "[a]4097:": 3, "[a] 4097:": 4, "99999999999999999999:": 0,
			"18446744073709551617:a": 0, lots(api.MaxText, "9"): 0,
			"4097 :": 0, "4097:" + lots(4097, "x"): 0,
			// Values that are too deep, or one too many.
			deep + "(": 16, within(17, ""): 16, within(15, "()(()"): 18, deep + " (": 17, deep + "a(": 17, lots(api.MaxText, "("): 16, deep + "a (!": 18,
			nodes + "a": 1023, nodes + "a)": 1023, nodes + " a": 1024, nodes + "(": 1023, nodes + "[": 1023, nodes + "[!": 1023, nodes + "\"": 1023, nodes + "#g": 1023,
			nodes + "|!": 1023, nodes + "0": 1023, nodes + "4097": 1023, nodes + "1x": 1023,
			"(" + lots(600, "()"): 1023, "(" + lots(600, "[a]b"): 1 + 511*4, "(" + lots(300, "(a)"): 1 + 255*3 + 1,
			// Values that have too many bytes.
			long: 4092, long + "  ": 4094, " " + long: 4093, `"` + long + `"`: 4094, `"` + lots(4092, `\"`) + `"`: 8186, "#" + lots(4092, "61") + "#": 8186,
			"|" + lots(1364, "YWJj") + "|": 5458, "4092:" + lots(4092, "x"): 4097, "4096:" + lots(4096, "x"): 4101,
			"(" + lots(4090, "a") + ")": 4092, "[" + lots(4087, "a") + "]b": 4090, "[b]" + lots(4087, "a"): 4090, "(" + lots(2, lots(2045, "a")+" ") + ")": 4094,
			lots(api.MaxText, "a"): api.MaxText, within(1, lots(500, "\"1234567\"")): 4502,
			// Texts that are too long, ahead of all other errors.
			lots(api.MaxText+1, " "): api.MaxText, lots(api.MaxText+1, "("): api.MaxText, lots(api.MaxText+1, "!"): api.MaxText, "a" + lots(api.MaxText, " "): api.MaxText,
			"4097:" + lots(api.MaxText, " "): api.MaxText, "a b" + lots(api.MaxText, " "): api.MaxText,
			`"` + lots(1<<20, "x") + `"`: api.MaxText,
		},
	} {
		for s, at := range texts {
			checkRead(t, s, answer{at: at, e: e})
			if want := wantRead(s); want.at != at || want.e != e {
				t.Errorf("the second reader: %.60q = %v; want %d, %v", s, want, at, e)
			}
		}
	}
}

// eachText calls f with each text of up to so many of some signs.
func eachText(signs string, n int, f func(s string)) {
	f("")
	if n > 0 {
		for i := range len(signs) {
			eachText(signs, n-1, func(s string) { f(signs[i:i+1] + s) })
		}
	}
}

// checkBoth asks both readers, and holds them against the second ones.
func checkBoth(t *testing.T, s string) {
	t.Helper()
	checkRead(t, s, wantRead(s))
	checkUnpack(t, s, wantUnpack(s))
}

func TestShortTexts(t *testing.T) {
	for signs, n := range map[string]int{
		"()[]a1: \"": 5, "()[] a": 6, "\"\\03x8n": 6, "#aG6 1|": 6, "|YQR= ": 7, "|YI=!(": 6, "#| \":(": 6, "{}YQ= ": 6, "{}MDo=": 6, "01:a ": 6,
	} {
		eachText(signs, n, func(s string) { checkBoth(t, s) })
	}
}

// P3.1: every byte, wherever it stands.
func TestEachByte(t *testing.T) {
	before := []string{
		"", " ", "(", "( ", "(a", "(a ", "()", "() ", "[", "[ ", "[a", "[a ", "[a]", "[a] ", "[a]b", "([a]b", "1", "12", "0", "1:", "2:", "(2:", "4096", "409", "a",
		"a ", "(1:a", "\"", "\"a", "\"\\",
		"\"\\0", "\"\\3", "\"\\00", "\"\\37", "\"\\x", "\"\\xa", "\"\\n", "\"\\\\", "#", "#a", "#ab", "#ab ", "#a ", "|", "|Y", "|YQ", "|YQ=", "|YQ==", "|YQ== ",
		"|YWJj", "##", "||", "\"\"",
		"{", "{ ", "{MDo", "{MDo=", "{MDo= ", "{MDo=}", "{MDo=} ", "{M", "{}", lots(16, "("), "(" + lots(511, "a "), "(" + lots(510, "a "),
	}
	behind := []string{"", " ", ")", "]", "\"", "#", "|", "}", "a", "1", ":", "]a", "a#", "0\"", "00\"", "=|", "Q==|", "a)", " )", "=}", "Do=}"}
	for c := range 256 {
		for _, b := range before {
			for _, e := range behind {
				checkBoth(t, b+string([]byte{byte(c)})+e)
			}
		}
	}
}

func TestUnpack(t *testing.T) {
	for s, form := range map[string]string{
		"{MDo=}": "0:", " {KDM6YWJjKQ= = } ": "(3:abc)", "{MTph}": "1:a", "{Mjph\tYg==}": "2:ab", "{KCk=}": "()",
		"\t\n\v\f\r {\t\n\v\f\r M\t\n\v\f\r D o =\t\n\v\f\r }\t\n\v\f\r ": "0:",
		"{WzE6YV0xOmI=}": "[1:a]1:b", "{WzA6XTA6}": "[0:]0:", pack("1:}"): "1:}", pack("3:\x00\xff "): "3:\x00\xff ",
		pack(within(16, "1:a")): within(16, "1:a"), pack(within(1, lots(511, "0:"))): within(1, lots(511, "0:")), pack(atom(lots(4091, "x"))): atom(lots(4091, "x")),
		lots(api.MaxText-8, " ") + "{MTph}  ": "1:a", "{" + lots(api.MaxText-6, " ") + "MTph}": "1:a",
	} {
		checkUnpack(t, s, answer{form: form})
	}
}

func TestUnpackErrors(t *testing.T) {
	for e, texts := range map[api.Errno]map[string]int{
		api.ErrShort: {
			"": 0, " ": 1, "\t\n\v\f\r": 5, "{": 1, "{ ": 2, "{MTph": 5, "{MTph ": 6, "{YR==": 5, "{=": 2, lots(api.MaxText, " "): api.MaxText,
			// What is packed lacks something.
			"{}": 1, "{ }": 2, " {}": 2, "{}x": 1, pack("(") + "!": 5, pack("3:ab"): 9, pack("[1:a]"): 9, pack(lots(16, "(")): 25,
		},
		api.ErrForm: {
			"a": 0, "(a)": 0, " a": 1, "}": 0, "1:a": 0, "\x00": 0, "\xff": 0, "|MTph|": 0, "#31#": 0, "[": 0, "{{MTph}}": 1, "{MTph)": 5, "{MTph|": 5, "{MTp!h}": 4,
			"{\x00MTph}": 1, "{-_==}": 1, "{MTph\xff}": 5, "{(a)}": 1,
			"{YR==}": 5, "{YQ=}": 4, "{Y}": 2, "{YQ}": 3, "{MTph=}": 6, "{=}": 2, "{====}": 5, "{MTph Y}": 7, "{MDo=MDo=}": 9, "{YR==}x": 5, "{MDp=}": 5,
			// What is packed has another byte than may.
			"{YQ==}": 5, "{ YQ== } ": 7, "{YQ==}x": 5, pack("a"): 5, pack(" 1:a"): 9, pack("(a)"): 5, pack("01:a"): 9, pack("{MTph}"): 9, pack(")"): 5,
		},
		api.ErrMore: {
			"{MDo=}x": 6, "{MDo=} x": 7, "{MDo=}}": 6, "{MDo=}{MDo=}": 6, "{MDo=}\x00": 6, "{MDo=}=": 6, "{MDo=} \xff": 7,
			"{MDo=}" + lots(api.MaxText-7, " ") + "x": api.MaxText - 1,
			// Bytes are packed behind the value.
			pack("1:ab"): 9, pack("0:0:"): 9, pack("1:a "): 9, pack("()()"): 9, pack("1:ab") + "x": 9,
		},
		api.ErrLong: {
			// What is packed is beyond a limit.
			pack("5000:"): 9, pack(within(17, "")): 49, pack(within(1, lots(512, "0:"))): 1369, pack(atom(lots(4092, "x"))): 5465, pack(lots(4097, "x")): 5465,
			" " + pack(atom(lots(5000, "x"))) + " x": 6678, "{" + lots(4000, "MTph") + "}": 16001,
			// Texts that are too long, ahead of all other errors.
			lots(api.MaxText+1, " "): api.MaxText, lots(api.MaxText+1, "!"): api.MaxText, "{MDo=}" + lots(api.MaxText, " "): api.MaxText,
			"{" + lots(1<<20, "A") + "}": api.MaxText,
		},
	} {
		for s, at := range texts {
			checkUnpack(t, s, answer{at: at, e: e})
			if want := wantUnpack(s); want.at != at || want.e != e {
				t.Errorf("the second reader: %.60q = %v; want %d, %v", s, want, at, e)
			}
		}
	}
}

// printed are canonical forms, and the advanced forms in which their values are printed.
func printed() map[string]string {
	x16, x17 := lots(16, "\x01"), lots(17, "\x01")
	return map[string]string{
		"(1:a3:b c1:\xff)": `(a "b c" #ff#)`, "()": "()", "(())": "(())", "(()())": "(() ())", "(1:a(1:b1:c)1:d)": "(a (b c) d)", "((1:a)(1:b))": "((a) (b))",
		"[1:a]1:b": "[a]b", "[0:]0:": `[""]""`, "([1:a]1:b[1:c]1:d)": "([a]b [c]d)", "[1:1]3:b c": `["1"]"b c"`, "[1:\x00]1:\xff": "[#00#]#ff#",
		"[" + atom(x17) + "]" + atom(x16): "[|AQEBAQEBAQEBAQEBAQEBAQE=|]#" + lots(16, "01") + "#",
		"1:a":                             "a", "2:-5": "-5", "8:./_:*+=-": "./_:*+=-", "2:a1": "a1", atom(letters): letters, atom("x" + digits): "x" + digits,
		atom(lots(4091, "a")): lots(4091, "a"), atom("_" + lots(30, "9")): "_" + lots(30, "9"),
		"0:": `""`, "1:1": `"1"`, "2:1a": `"1a"`, "1: ": `" "`, "1:~": `"~"`, `1:"`: `"\""`, `1:\`: `"\\"`, "1:'": `"'"`, `2:\"`: `"\\\""`, "3:a\"b": `"a\"b"`,
		`2:\n`: `"\\n"`, "3:a b": `"a b"`, "4:(a)]": `"(a)]"`, atom(lots(30, "!")): `"` + lots(30, "!") + `"`,
		"1:,": `","`, "1:@": `"@"`, "1:[": `"["`, "1:`": "\"`\"", "1:{": `"{"`, "1:;": `";"`,
		"1:\x1f": "#1f#", "1:\x7f": "#7f#", "1:\n": "#0a#", "2:a\t": "#6109#", "1:\x80": "#80#", "2:\xab\xcd": "#abcd#", "2:\xc3\xa9": "#c3a9#",
		"4:a b\x00": "#61206200#", atom(x16): "#" + lots(16, "01") + "#",
		atom(x17): "|AQEBAQEBAQEBAQEBAQEBAQE=|", atom(lots(16, "\xff")): "#" + lots(16, "ff") + "#", atom(lots(18, "\xff")): "|" + lots(6, "////") + "|",
		atom(lots(16, "a") + "\n"): "|YWFhYWFhYWFhYWFhYWFhYQo=|", atom(lots(15, "a") + "\n"): "#" + lots(15, "61") + "0a#",
		within(16, "1:a"): within(16, "a"), within(1, lots(511, "0:")): within(1, lots(510, `"" `)+`""`), atom(lots(4091, `"`)): `"` + lots(4091, `\"`) + `"`,
	}
}

func TestPrint(t *testing.T) {
	for form, s := range printed() {
		v := value(t, form)
		if got, e := notation.Print(v); e != api.OK || got != s {
			t.Errorf("P3.1: Print of %.60q = %.60q, %v; want %.60q", form, got, e, s)
		}
		if got, e := notation.Pack(v); e != api.OK || got != pack(form) {
			t.Errorf("P3.1: Pack of %.60q = %.60q, %v; want %.60q", form, got, e, pack(form))
		}
	}
}

// mayNot are values that may not be.
func mayNot() map[string]api.Sexp {
	x := []byte("x")
	kids := []api.Sexp{{Data: x}}
	deep, itself := api.Sexp{List: true}, api.Sexp{List: true, Kids: make([]api.Sexp, 2)}
	for range 16 {
		deep = api.Sexp{List: true, Kids: []api.Sexp{deep}}
	}
	itself.Kids[0], itself.Kids[1] = itself, itself
	return map[string]api.Sexp{
		"a list with data": {List: true, Data: x}, "a list with a hint": {List: true, Hint: x}, "a list that is hinted": {List: true, Hinted: true},
		"an atom with kids": {Kids: kids}, "a hidden hint": {Hint: x, Data: x},
		"one of these in a list": {List: true, Kids: []api.Sexp{{Data: x}, {Kids: kids}}}, "17 deep": deep, "513 nodes": {List: true, Kids: make([]api.Sexp, 512)},
		"1 << 20 nodes": {List: true, Kids: make([]api.Sexp, 1<<20)},
		"4097 bytes":    {Data: make([]byte, 4092)}, "4097 signs of a token": sexp.Atom(lots(4092, "a")), "4097 bytes of a hint": {Hinted: true, Hint: make([]byte, 4088)},
		"1 << 20 bytes": {Data: make([]byte, 1<<20)}, "a value in itself": itself,
	}
}

func TestMayNot(t *testing.T) {
	for name, v := range mayNot() {
		if s, e := notation.Print(v); s != "" || e != api.ErrLong {
			t.Errorf("P3.1: Print of %s = %.60q, %v; want none, ErrLong", name, s, e)
		}
		if s, e := notation.Pack(v); s != "" || e != api.ErrLong {
			t.Errorf("P3.1: Pack of %s = %.60q, %v; want none, ErrLong", name, s, e)
		}
	}
}

// checkBack prints a value that may be, in both forms, and reads these.
func checkBack(t *testing.T, v api.Sexp) (string, string) {
	t.Helper()
	s, e := notation.Print(v)
	back, at, f := notation.Read(s)
	if e != api.OK || f != api.OK || at != 0 || !sexp.Same(back, v) {
		t.Fatalf("P3.2: %v is printed %.60q, %v, and read %v, %d, %v", v, s, e, back, at, f)
	}
	p, e := notation.Pack(v)
	back, at, f = notation.Unpack(p)
	if e != api.OK || f != api.OK || at != 0 || !sexp.Same(back, v) {
		t.Fatalf("P3.2: %v is packed %.60q, %v, and unpacked %v, %d, %v", v, p, e, back, at, f)
	}
	return s, p
}

func TestThereAndBack(t *testing.T) {
	for _, form := range advanced() {
		checkBack(t, value(t, form))
	}
	for form := range printed() {
		checkBack(t, value(t, form))
	}
	for a := range 256 {
		one := []byte{byte(a)}
		checkBack(t, api.Sexp{Data: one})
		checkBack(t, api.Sexp{Hinted: true, Hint: one, Data: one})
		for b := range 256 {
			checkBack(t, api.Sexp{List: true, Kids: []api.Sexp{{Data: []byte{byte(a), byte(b)}}, {Data: one}}})
		}
	}
	for _, signs := range []string{"a", "1", " ", `"`, `\`, "\x00", "\n", "\xff", "é"} {
		for n := range 40 {
			checkBack(t, sexp.Atom(lots(n, signs)))
		}
		checkBack(t, sexp.Atom(lots(4091/len(signs), signs)))
		checkBack(t, api.Sexp{Hinted: true, Hint: []byte(lots(2000/len(signs), signs)), Data: []byte(lots(2000/len(signs), signs))})
	}
}

// P3.1, P3.3: what is canonical is read as an advanced form, too, and as the same value.
func TestCanonicalIsAdvanced(t *testing.T) {
	both := 0
	try := func(s string) {
		v, _, e := sexp.Get([]byte(s))
		w, _, f := notation.Read(s)
		if e == api.OK && f != api.OK || e == api.OK && !sexp.Same(v, w) {
			t.Fatalf("P3.3: %.60q is %v as a canonical form, and %v, %v as an advanced one", s, v, w, f)
		}
		if e == api.OK {
			both++
		}
	}
	for _, form := range advanced() {
		try(form)
	}
	for form, s := range printed() {
		try(form)
		try(s)
	}
	eachText("()[]012:", 6, try)
	eachText("()01:", 7, try)
	for a := range 256 {
		for b := range 256 {
			try("(2:" + string([]byte{byte(a), byte(b)}) + ")")
			try("[1:" + string([]byte{byte(a)}) + "]1:" + string([]byte{byte(b)}))
		}
	}
	if both < 1<<17 {
		t.Errorf("P3.3: only %d texts were both", both)
	}
}

// random is some value that may be, if it isn't too great; the same ones each time.
func random(source *rand.Rand, deep int) api.Sexp {
	text := func() []byte {
		signs := []string{"ab1:", "ab1:", "a \"\\(])", "\x00\n\xff~"}[source.Intn(4)]
		b := make([]byte, source.Intn(21))
		for i := range b {
			b[i] = signs[source.Intn(len(signs))]
		}
		return b
	}
	switch kind := source.Intn(5); {
	case kind < 3 && deep > 0:
		v := api.Sexp{List: true}
		for range source.Intn(5) {
			v.Kids = append(v.Kids, random(source, deep-1))
		}
		return v
	case kind == 3:
		return api.Sexp{Hinted: true, Hint: text(), Data: text()}
	}
	return api.Sexp{Data: text()}
}

// dressed is some advanced form of a value.
func dressed(source *rand.Rand, v api.Sexp) string {
	gap := lots(source.Intn(3), " \t\n\v\f\r"[source.Intn(6):][:1])
	switch {
	case v.List:
		out := gap + "("
		for _, kid := range v.Kids {
			// A token must not run into the next one.
			out += dressed(source, kid) + "\n"
		}
		return out + gap + ")"
	case v.Hinted:
		return gap + "[" + dressedBytes(source, v.Hint) + gap + "]" + gap + dressedBytes(source, v.Data)
	}
	return gap + dressedBytes(source, v.Data)
}

// dressedBytes is some advanced form of bytes.
func dressedBytes(source *rand.Rand, b []byte) string {
	spread := func(s string) string {
		out := ""
		for i := range len(s) {
			out += lots(source.Intn(2), "\t") + s[i:i+1]
		}
		return out
	}
	escape := func() string {
		out := ""
		for _, c := range b {
			forms := []string{`\x` + strconv.FormatUint(uint64(c)|256, 16)[1:], `\` + strconv.FormatUint(uint64(c)|512, 8)[1:], string([]byte{c})}
			form := forms[source.Intn(3)]
			if form == `"` || form == `\` {
				form = `\` + form
			}
			out += form
		}
		return out
	}
	switch source.Intn(5) {
	case 0:
		return atom(string(b))
	case 1:
		return "#" + spread(hexOf(source, b)) + "#"
	case 2:
		return "|" + spread(base64.StdEncoding.EncodeToString(b)) + "|"
	case 3:
		if len(b) > 0 && len(strings.Trim(string(b), letters+digits+"./_:*+=-")) == 0 && strings.Trim(string(b[:1]), digits) != "" {
			return string(b)
		}
	}
	return `"` + escape() + `"`
}

// hexOf are the hexadecimal digits of bytes, in small letters or in great ones.
func hexOf(source *rand.Rand, b []byte) string {
	s := hex.EncodeToString(b)
	if source.Intn(2) == 0 {
		s = strings.ToUpper(s)
	}
	return s
}

// changed is a text with another byte somewhere, one more, one less, or without what follows.
func changed(source *rand.Rand, s string) string {
	const signs = "()[]\"\\#| 0123456789abxn:=}{"
	i := source.Intn(len(s))
	c := signs[source.Intn(len(signs))]
	out := []byte(s)
	switch source.Intn(4) {
	case 0:
		out[i] = c
	case 1:
		out = slices.Insert(out, i, c)
	case 2:
		out = slices.Delete(out, i, i+1)
	case 3:
		out = out[:i]
	}
	return string(out)
}

func TestRandomValues(t *testing.T) {
	source := rand.New(rand.NewSource(3))
	for range 1500 {
		v := random(source, 1+source.Intn(8))
		form, e := sexp.Put(v)
		if e != api.OK {
			if s, f := notation.Print(v); s != "" || f != api.ErrLong {
				t.Fatalf("P3.1: Print of what may not be: %.60q, %v", s, f)
			}
			checkBoth(t, dressed(source, v))
			continue
		}
		s, p := checkBack(t, v)
		d := dressed(source, v)
		checkRead(t, s, answer{form: string(form)})
		checkRead(t, d, wantRead(d))
		if len(d) <= api.MaxText {
			checkRead(t, d, answer{form: string(form)})
		}
		checkUnpack(t, p, answer{form: string(form)})
		for range 10 {
			checkBoth(t, changed(source, s))
			checkBoth(t, changed(source, d))
			checkBoth(t, changed(source, p))
		}
	}
}

// scribble writes into all memory of a value, behind its lists' ends, too.
func scribble(v api.Sexp) {
	for _, b := range [][]byte{v.Hint, v.Data} {
		b = b[:cap(b)]
		for i := range b {
			b[i] = '!'
		}
	}
	kids := v.Kids[:cap(v.Kids)]
	for i := range kids {
		scribble(kids[i])
		kids[i] = api.Sexp{Data: []byte("!")}
	}
}

// P0.3: lists of one answer share no memory, nor do two answers: what is written into one, or behind its end, is in no other.
func TestAnswersAreNew(t *testing.T) {
	text := `(a [b]c "de" [#66#]|Zw==| (1:h i) [j]2:kl)`
	forms := []string{"1:a", "[1:b]1:c", "2:de", "[1:f]1:g", "(1:h1:i)", "[1:j]2:kl"}
	reads := map[string]func() (api.Sexp, int, api.Errno){
		"Read":   func() (api.Sexp, int, api.Errno) { return notation.Read(text) },
		"Unpack": func() (api.Sexp, int, api.Errno) { return notation.Unpack(pack("(" + strings.Join(forms, "") + ")")) },
	}
	for name, read := range reads {
		other, _, _ := read()
		for i := range forms {
			v, _, e := read()
			if e != api.OK || len(v.Kids) != len(forms) {
				t.Fatalf("P0.3: %s: %v, %v", name, v, e)
			}
			scribble(v.Kids[i])
			for j, form := range forms {
				if j != i && !sexp.Same(v.Kids[j], value(t, form)) || !sexp.Same(other.Kids[j], value(t, form)) {
					t.Errorf("P0.3: %s: value %d of %d is %v, or %v, behind a change of value %d", name, j, len(forms), v.Kids[j], other.Kids[j], i)
				}
			}
		}
		v, _, _ := read()
		for _, i := range []int{1, 3, 5} {
			scribble(api.Sexp{Data: v.Kids[i].Hint})
			if data := value(t, forms[i]).Data; string(v.Kids[i].Data) != string(data) {
				t.Errorf("P0.3: %s: a hint shares memory with %q", name, data)
			}
		}
		scribble(v.Kids[4].Kids[0])
		if string(v.Kids[4].Kids[1].Data) != "i" {
			t.Errorf("P0.3: %s: an atom shares memory with another", name)
		}
	}
}

// P0.3: what is handed in isn't changed, the room behind a list's end neither.
func TestArguments(t *testing.T) {
	room := []byte("xyz\x00")
	kids := []api.Sexp{{Data: room[0:1]}, {Hinted: true, Hint: room[1:2], Data: room[2:3]}, {Data: []byte("behind")}}
	v := api.Sexp{List: true, Kids: kids[:2]}
	s, e := notation.Print(v)
	p, f := notation.Pack(v)
	if s != "(x [y]z)" || e != api.OK || p != pack("(1:x[1:y]1:z)") || f != api.OK {
		t.Errorf("P0.3: %q, %v; %q, %v", s, e, p, f)
	}
	if string(room) != "xyz\x00" || string(kids[2].Data) != "behind" || len(kids[0].Data) != 1 || len(kids[1].Hint) != 1 || len(kids[1].Data) != 1 {
		t.Errorf("P0.3: what was handed in became %q, %v", room, kids)
	}
	scribble(v)
	if s != "(x [y]z)" || p != pack("(1:x[1:y]1:z)") {
		t.Errorf("P0.3: what was printed became %q, %q", s, p)
	}
}

// P0.4: a nil list is the same as an empty one.
func TestNilIsEmpty(t *testing.T) {
	for want, v := range map[string]api.Sexp{`""`: {}, "()": {List: true}, `[""]""`: {Hinted: true}} {
		full := v
		full.Hint, full.Data, full.Kids = []byte{}, []byte{}, []api.Sexp{}
		for _, w := range []api.Sexp{v, full} {
			if s, e := notation.Print(w); s != want || e != api.OK {
				t.Errorf("P0.4: Print(%v) = %q, %v; want %q", w, s, e, want)
			}
			checkBack(t, w)
		}
	}
}

// P0.5: the same arguments come to the same answers, whatever was asked between.
func TestAgain(t *testing.T) {
	texts := []string{"(x [y]z)", "(x", "x y", "(!", "5000:", "#abc#", `"\q"`, "{MTph}", "{YQ==}", "{MTph} x", "{", "{" + lots(4000, "MTph") + "}"}
	for _, s := range texts {
		v, at, e := notation.Read(s)
		w, place, f := notation.Unpack(s)
		for _, other := range texts {
			notation.Read(other)
			notation.Unpack(other)
		}
		if again, i, g := notation.Read(s); !sexp.Same(v, again) || at != i || e != g {
			t.Errorf("P0.5: Read(%q) = %v, %d, %v, then %v, %d, %v", s, v, at, e, again, i, g)
		}
		if again, i, g := notation.Unpack(s); !sexp.Same(w, again) || place != i || f != g {
			t.Errorf("P0.5: Unpack(%q) = %v, %d, %v, then %v, %d, %v", s, w, place, f, again, i, g)
		}
	}
}
