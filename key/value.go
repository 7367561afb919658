package key

import (
	"greffier/api"
	"greffier/sexp"
)

// The words of principals' values.
const (
	publicKey = "public-key"
	ed25519   = "ed25519"
	hash      = "hash"
	sha512    = "sha512"
)

// write is the value of a principal that may be.
func write(k api.Key) api.Sexp {
	data := sexp.Atom(string(k.Data))
	if k.Sum {
		return sexp.List(sexp.Atom(hash), sexp.Atom(sha512), data)
	}
	return sexp.List(sexp.Atom(publicKey), sexp.List(sexp.Atom(ed25519), data))
}

// likely is the one principal whose value it can be, with whose memory it shares.
func likely(v api.Sexp) api.Key {
	// A sum's value has 3 kids, a public key's 2.
	if len(v.Kids) == 3 {
		return api.Key{Sum: true, Data: last(v).Data}
	}
	return api.Key{Data: last(last(v)).Data}
}

// last is the last kid of a value, or nothing, if it has none.
func last(v api.Sexp) api.Sexp {
	if len(v.Kids) == 0 {
		return api.Sexp{}
	}
	return v.Kids[len(v.Kids)-1]
}
