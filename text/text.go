// Package text is layer 1: names, numbers and string literals. It is specified in shared/doc/01-text.md.
package text

import (
	"strconv"
	"strings"

	"supergraph/api"
)

// Name reports whether s is a name.
func Name(s string) bool {
	if s == "" || len(s) > api.MaxName || isDigit(s[0]) {
		return false
	}
	for i := 0; i < len(s); i++ {
		if !isNamePart(s[i]) {
			return false
		}
	}
	return true
}

// Reserved reports whether s begins with two underscores; s need not be a name.
func Reserved(s string) bool { return strings.HasPrefix(s, "__") }

// Decimal returns n in decimal.
func Decimal(n int) string { return strconv.Itoa(n) }

// Number returns the integer that s represents.
func Number(s string) (int, api.Errno) {
	if !isDecimal(s) {
		return 0, api.ErrForm
	}
	n, err := strconv.Atoi(s)
	if err != nil {
		// The form is right, so only the range can be wrong.
		return 0, api.ErrSize
	}
	return n, api.OK
}

// isDecimal is stricter than strconv.Atoi: every integer has one form only.
func isDecimal(s string) bool {
	digits := strings.TrimPrefix(s, "-")
	if digits == "" {
		return false
	}
	if digits[0] == '0' {
		return s == "0"
	}
	for i := 0; i < len(digits); i++ {
		if !isDigit(digits[i]) {
			return false
		}
	}
	return true
}

func isDigit(c byte) bool { return '0' <= c && c <= '9' }

func isLetter(c byte) bool { return 'a' <= c && c <= 'z' || 'A' <= c && c <= 'Z' }

func isNamePart(c byte) bool { return isLetter(c) || isDigit(c) || c == '_' }

func isPrintable(c byte) bool { return 32 <= c && c <= 126 }
