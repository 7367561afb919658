package number

import (
	"bytes"
	"math"

	"greffier/api"
)

// decimal is the value of digits, perhaps with a minus ahead and a full stop between.
func decimal(b []byte) (float64, bool) {
	b, minus := bytes.CutPrefix(b, []byte("-"))
	whole, behind, stop := bytes.Cut(b, []byte("."))
	if len(whole)+len(behind) > api.MaxDigits || !areDigits(whole) || stop && !areDigits(behind) {
		return 0, false
	}
	number, power := 0.0, 1.0
	for _, c := range whole {
		number = 10*number + worth(c)
	}
	for _, c := range behind {
		number, power = 10*number+worth(c), 10*power
	}
	// So few digits are a whole number that a float64 has exactly, as it has the power: nothing but the division rounds, and noughts behind change nothing.
	value := number / power
	if minus {
		// A zero has its sign, too, which 0 less the value would lose.
		value = math.Copysign(value, -1)
	}
	return value, true
}

// areDigits tells whether bytes are decimal digits, at least one.
func areDigits(b []byte) bool {
	for _, c := range b {
		if c < '0' || '9' < c {
			return false
		}
	}
	return len(b) > 0
}

// worth is a digit's.
func worth(c byte) float64 { return float64(c - '0') }
