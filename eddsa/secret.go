package eddsa

import (
	"greffier/point"
	"greffier/scalar"
	"greffier/sha"
)

// size is how many bytes a seed has, a public key, and each half of a sum and of a signature.
const size = 32

// The bits of a secret number that don't hang on the seed: those that are cleared in its first byte and in its last one, and the one that is set there.
const (
	clearedFirst = 1<<3 - 1
	clearedLast  = 1 << 7
	setLast      = 1 << 6
)

// secret is what a seed stands for: the secret number, and the prefix.
type secret struct{ number, prefix [size]byte }

// secretOf is the secret of a seed.
func secretOf(seed []byte) secret {
	number, prefix := halved(sha.Of(seed))
	number[0] &^= clearedFirst
	number[size-1] &^= clearedLast
	number[size-1] |= setLast
	return secret{number, prefix}
}

// public is the public key of a secret.
func (s secret) public() [size]byte { return point.Base().Times(s.number).Bytes() }

// restOf is the rest of the sum of rows.
func restOf(l ...[]byte) [size]byte {
	sum := sha.Of(l...)
	return scalar.Reduce(sum[:])
}

// halved are the two halves of a row.
func halved(row [2 * size]byte) (first, last [size]byte) {
	copy(first[:], row[:size])
	copy(last[:], row[size:])
	return first, last
}

// joined is the row of two halves.
func joined(first, last [size]byte) (row [2 * size]byte) {
	copy(row[:size], first[:])
	copy(row[size:], last[:])
	return row
}
