package text

import "supergraph/api"

const hexDigits = "0123456789abcdef"

// Quote returns the string literal of s.
func Quote(s string) string {
	literal := make([]byte, 0, len(s)+2)
	literal = append(literal, '"')
	for i := 0; i < len(s); i++ {
		literal = appendQuoted(literal, s[i])
	}
	return string(append(literal, '"'))
}

func appendQuoted(literal []byte, c byte) []byte {
	switch {
	case c == '"' || c == '\\':
		return append(literal, '\\', c)
	case c == '\n':
		return append(literal, '\\', 'n')
	case c == '\r':
		return append(literal, '\\', 'r')
	case c == '\t':
		return append(literal, '\\', 't')
	case isPrintable(c):
		return append(literal, c)
	}
	return append(literal, '\\', 'u', '0', '0', hexDigits[c>>4], hexDigits[c&15])
}

// Unquote returns the string that a literal represents.
func Unquote(s string) (string, api.Errno) {
	if len(s) < 2 || s[0] != '"' || s[len(s)-1] != '"' {
		return "", api.ErrForm
	}
	// Without its last quotation mark, the content cannot use it as part of an escape.
	content := s[1 : len(s)-1]
	result := make([]byte, 0, len(content))
	for content != "" {
		c, length := firstByte(content)
		if length == 0 {
			return "", api.ErrForm
		}
		result = append(result, c)
		content = content[length:]
	}
	return string(result), api.OK
}

// firstByte returns the first byte that the content of a literal represents, and how many bytes
// represent it: none if the content is malformed there.
func firstByte(content string) (byte, int) {
	c := content[0]
	if c == '"' || !isPrintable(c) {
		return 0, 0
	}
	if c != '\\' {
		return c, 1
	}
	if len(content) < 2 {
		return 0, 0
	}
	if content[1] == 'u' {
		return numberedByte(content[2:])
	}
	return escapedByte(content[1])
}

func escapedByte(c byte) (byte, int) {
	switch c {
	case '"', '\\', '/':
		return c, 2
	case 'b':
		return '\b', 2
	case 'f':
		return '\f', 2
	case 'n':
		return '\n', 2
	case 'r':
		return '\r', 2
	case 't':
		return '\t', 2
	}
	return 0, 0
}

// numberedByte reads the four hexadecimal digits after \u.
func numberedByte(digits string) (byte, int) {
	if len(digits) < 4 {
		return 0, 0
	}
	number := 0
	for i := range 4 {
		digit, ok := hexDigit(digits[i])
		if !ok {
			return 0, 0
		}
		number = number*16 + digit
	}
	if number > 255 {
		return 0, 0
	}
	return byte(number), len(`\u0000`)
}

func hexDigit(c byte) (int, bool) {
	switch {
	case isDigit(c):
		return int(c - '0'), true
	case 'a' <= c && c <= 'f':
		return int(c-'a') + 10, true
	case 'A' <= c && c <= 'F':
		return int(c-'A') + 10, true
	}
	return 0, false
}
