// Package num is layer 1: signed 16-bit arithmetic and the decimal form of numbers.
package num

import (
	"strconv"
	"strings"

	"clew/api"
)

// The bounds of a value.
const (
	least    = -32768
	greatest = 32767
)

// Is reports whether n is a value, that is, in [-32768, 32767].
func Is(n int) bool {
	return least <= n && n <= greatest
}

// Wrap returns the value that is congruent to n modulo 2^16.
func Wrap(n int) int {
	return int(int16(n))
}

// Add returns the sum of two values, wrapped.
func Add(a, b int) int {
	return Wrap(Wrap(a) + Wrap(b))
}

// Sub returns the difference of two values, wrapped.
func Sub(a, b int) int {
	return Wrap(Wrap(a) - Wrap(b))
}

// Mul returns the product of two values, wrapped.
func Mul(a, b int) int {
	return Wrap(Wrap(a) * Wrap(b))
}

// Div returns the quotient of two values, truncated towards zero and wrapped; a zero divisor is ErrArg.
func Div(a, b int) (int, api.Errno) {
	switch divisor := Wrap(b); divisor {
	case 0:
		return 0, api.ErrArg
	default:
		// The one quotient that is no value is -32768 / -1.
		return Wrap(Wrap(a) / divisor), api.OK
	}
}

// Mod returns the remainder of Div, which has the sign of the dividend; a zero divisor is ErrArg.
func Mod(a, b int) (int, api.Errno) {
	switch divisor := Wrap(b); divisor {
	case 0:
		return 0, api.ErrArg
	default:
		return Wrap(a) % divisor, api.OK
	}
}

// Neg returns the negative of a value, wrapped.
func Neg(n int) int {
	return Wrap(-Wrap(n))
}

// Text returns the decimal form of n, with a minus sign if it is negative.
func Text(n int) string {
	negative := func() bool { return n < 0 }
	sign, amount := "", uint64(n)
	switch {
	case negative():
		// Negated without a sign, because the least int has no positive counterpart.
		sign, amount = "-", -amount
		fallthrough
	default:
		return sign + Digits(amount)
	}
}

// Digits returns the decimal form of n.
func Digits(n uint64) string {
	return strconv.FormatUint(n, 10)
}

// Parse returns the value whose Text is s; ErrForm if s is the Text of no integer, and ErrRange if that integer is no value.
func Parse(s string) (int, api.Errno) {
	negative := func() bool { return strings.HasPrefix(s, "-") }
	digits, factor, limit := s, 1, uint64(greatest)
	switch {
	case s == "-0":
		return 0, api.ErrForm
	case negative():
		digits, factor, limit = s[1:], -1, uint64(-least)
		fallthrough
	default:
		amount, err := Number(digits, limit)
		return factor * int(amount), err
	}
}

// Number returns the number whose Digits are s; ErrForm if s are the digits of no number, and ErrRange if it exceeds most.
func Number(s string, most uint64) (uint64, api.Errno) {
	switch {
	case !isDecimal(s):
		return 0, api.ErrForm
	case !fits(s, most):
		return 0, api.ErrRange
	default:
		return size(s), api.OK
	}
}

// isDecimal reports whether s is the decimal form of a number, however large.
func isDecimal(s string) bool {
	for i := range len(s) {
		if s[i] < '0' || s[i] > '9' {
			return false
		}
	}
	return s == "0" || s != "" && s[0] != '0'
}

// fits reports whether the number of a decimal form is at most most; it compares texts, because no integer type holds every number.
func fits(s string, most uint64) bool {
	limit := Digits(most)
	return len(s) < len(limit) || len(s) == len(limit) && s <= limit
}

// size returns the number of a decimal form that fits.
func size(s string) uint64 {
	n := uint64(0)
	for i := range len(s) {
		n = 10*n + uint64(s[i]-'0')
	}
	return n
}
