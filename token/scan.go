package token

import (
	"strings"
	"unicode/utf8"

	"supergraph/api"
	"supergraph/text"
)

// The characters that begin a token or go on with it; an underscore counts as a letter.
const (
	signs    = "!$&():=@[]{|}"
	ellipsis = "..."
	digits   = "0123456789"
	letters  = "ABCDEFGHIJKLMNOPQRSTUVWXYZabcdefghijklmnopqrstuvwxyz_"
)

// Scan reads the tokens of a document, the last of which is End, or returns the index and the code of the first wrong one.
func Scan(s string) ([]Token, int, api.Errno) {
	if len(s) > api.MaxText {
		return nil, api.MaxText, api.ErrSize
	}
	var tokens []Token
	at := separators(s)
	for at < len(s) {
		t, length, code := first(s[at:])
		if code != api.OK {
			return nil, at, code
		}
		t.At = at
		tokens = append(tokens, t)
		at += length
		at += separators(s[at:])
	}
	return append(tokens, Token{Kind: End, At: at}), 0, api.OK
}

// span returns how many bytes of s, from its first one on, are those of characters that belong.
func span(s string, belongs func(c rune) bool) int {
	for i, c := range s {
		if !belongs(c) {
			return i
		}
	}
	return len(s)
}

// separators returns how many bytes of separators s begins with.
func separators(s string) int {
	inComment := false
	return span(s, func(c rune) bool {
		switch c {
		case '#':
			inComment = true
		case '\n', '\r':
			inComment = false
			return true
		case ' ', '\t', ',':
			return true
		}
		return inComment
	})
}

// first returns the token that s begins with, and how many bytes of s it takes.
func first(s string) (Token, int, api.Errno) {
	c, _ := utf8.DecodeRuneInString(s)
	isIn := func(set string) bool { return strings.ContainsRune(set, c) }
	switch {
	case isIn(signs):
		return Token{Kind: Sign, Text: s[:1]}, 1, api.OK
	case strings.HasPrefix(s, ellipsis):
		return Token{Kind: Sign, Text: ellipsis}, len(ellipsis), api.OK
	case isIn(letters):
		return name(s)
	case isIn("-" + digits):
		return integer(s)
	case c == '"':
		return literal(s)
	}
	return Token{}, 0, api.ErrForm
}

// word returns how many bytes of letters and digits s begins with.
func word(s string) int {
	return span(s, func(c rune) bool { return strings.ContainsRune(letters+digits, c) })
}

func name(s string) (Token, int, api.Errno) {
	length := word(s)
	if !text.Name(s[:length]) {
		return Token{}, 0, api.ErrForm
	}
	return Token{Kind: Name, Text: s[:length]}, length, api.OK
}

// integer takes letters, too, so that 1a is one wrong token, and not two right ones.
func integer(s string) (Token, int, api.Errno) {
	length := 1 + word(s[1:])
	_, code := text.Number(s[:length])
	return Token{Kind: Int, Text: s[:length]}, length, code
}

// literal may skip a character where the chapter skips a byte: the other bytes of a character are
// neither quotation marks nor backslashes.
func literal(s string) (Token, int, api.Errno) {
	skipped := false
	content := span(s[1:], func(c rune) bool {
		closes := c == '"' && !skipped
		skipped = c == '\\' && !skipped
		return !closes
	})
	length := content + len(`""`)
	if length > len(s) {
		return Token{}, 0, api.ErrForm
	}
	represented, code := text.Unquote(s[:length])
	return Token{Kind: Text, Text: represented}, length, code
}
