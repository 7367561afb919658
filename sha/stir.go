package sha

import "math/bits"

// stir puts the block, which is full, into the words.
func (h *Hash) stir() {
	s := h.words // from a to h
	for t, word := range schedule(h.block) {
		t1 := s[7] + turned(s[4], 14, 18, 41) + choice(s[4], s[5], s[6]) + h.constants[t] + word
		t2 := turned(s[0], 28, 34, 39) + majority(s[0], s[1], s[2])
		s = [8]uint64{t1 + t2, s[0], s[1], s[2], s[3] + t1, s[4], s[5], s[6]}
	}
	for i, word := range s {
		h.words[i] += word
	}
}

// schedule are a block's words, one for each round.
func schedule(block [blockSize]byte) (w [80]uint64) {
	for i, b := range block {
		w[i/wordSize] = w[i/wordSize]<<8 | uint64(b)
	}
	for t := blockSize / wordSize; t < len(w); t++ {
		w[t] = moved(w[t-2], 19, 61, 6) + w[t-7] + moved(w[t-15], 1, 8, 7) + w[t-16]
	}
	return w
}

// turned is a word turned right by each of three counts, put together.
func turned(x uint64, i, j, k int) uint64 { return right(x, i) ^ right(x, j) ^ right(x, k) }

// moved is a word turned right by two counts and moved right by a third, put together.
func moved(x uint64, i, j, k int) uint64 { return right(x, i) ^ right(x, j) ^ x>>k }

// right is a word turned right.
func right(x uint64, n int) uint64 { return bits.RotateLeft64(x, -n) }

// choice has f's bits where e has ones, and g's elsewhere.
func choice(e, f, g uint64) uint64 { return e&f | ^e&g }

// majority has the bits that two of three words have at least.
func majority(a, b, c uint64) uint64 { return a&b | a&c | b&c }
