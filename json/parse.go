package json

import (
	"strings"

	"supergraph/api"
	"supergraph/text"
)

// The bytes that are possible in one place.
const (
	spaces       = " \t\n\r"
	digits       = "0123456789"
	digitsNot0   = "123456789"
	hexDigits    = digits + "abcdefABCDEF"
	shortEscapes = `"\/bfnrt`
	valueBegins  = `"[{nft-` + digits
)

// Parse returns the value that s represents, or the index and the code of the first error.
func Parse(s string) (api.Value, int, api.Errno) {
	p := parser{source: s}
	v, ok := p.value(1)
	if !ok {
		return api.Value{}, p.errorAt, p.code
	}
	p.skip(spaces)
	if p.at < len(s) {
		return api.Value{}, p.at, api.ErrForm
	}
	return v, 0, api.OK
}

// A parser reads its source from the left to the right and stops at the first error: its methods
// report false then, and fail has noted which one it is.
type parser struct {
	source  string
	at      int // the index of the next byte
	values  int // how many values have begun
	errorAt int
	code    api.Errno
}

func (p *parser) fail(at int, code api.Errno) bool {
	p.errorAt, p.code = at, code
	return false
}

// next returns the next byte, or 0 at the end: JSON text contains no 0, so that the end is refused
// like a wrong byte, and at its own index.
func (p *parser) next() byte {
	if p.at < len(p.source) {
		return p.source[p.at]
	}
	return 0
}

func (p *parser) nextIn(set string) bool { return strings.IndexByte(set, p.next()) >= 0 }

// take reads one byte, which must be in set.
func (p *parser) take(set string) bool {
	if !p.nextIn(set) {
		return p.fail(p.at, api.ErrForm)
	}
	p.at++
	return true
}

func (p *parser) skip(set string) {
	for p.nextIn(set) {
		p.at++
	}
}

func (p *parser) value(level int) (api.Value, bool) {
	p.skip(spaces)
	if !p.begin(level) {
		return api.Value{}, false
	}
	switch p.next() {
	case 'n':
		return api.Value{}, p.word("null")
	case 'f':
		return api.Value{Kind: api.VBool}, p.word("false")
	case 't':
		return api.Value{Kind: api.VBool, Int: 1}, p.word("true")
	case '"':
		s, ok := p.literal()
		return api.Value{Kind: api.VText, Text: s}, ok
	case '[':
		return p.list(level)
	case '{':
		return p.object(level)
	}
	return p.integer()
}

// begin counts the value whose first byte comes next, and checks the limits.
func (p *parser) begin(level int) bool {
	if !p.nextIn(valueBegins) {
		return p.fail(p.at, api.ErrForm)
	}
	if level > api.MaxDepth {
		return p.fail(p.at, api.ErrDepth)
	}
	p.values++
	if p.values > api.MaxNodes {
		return p.fail(p.at, api.ErrSize)
	}
	return true
}

func (p *parser) word(word string) bool {
	for i := range len(word) {
		if !p.take(word[i : i+1]) {
			return false
		}
	}
	return true
}

func (p *parser) integer() (api.Value, bool) {
	start := p.at
	first := digits
	if p.next() == '-' {
		p.at++
		first = digitsNot0
	}
	if !p.take(first) {
		return api.Value{}, false
	}
	// A digit after a leading 0 is refused by whatever goes on there.
	if p.source[p.at-1] != '0' {
		p.skip(digits)
	}
	n, code := text.Number(p.source[start:p.at])
	if code != api.OK {
		return api.Value{}, p.fail(start, code)
	}
	return api.Value{Kind: api.VInt, Int: n}, true
}

// literal checks a string literal byte by byte, because text.Unquote does not say where it is malformed.
func (p *parser) literal() (string, bool) {
	start := p.at
	if !p.take(`"`) {
		return "", false
	}
	for p.next() != '"' {
		if !p.character() {
			return "", false
		}
	}
	p.at++
	// Every byte of the literal has been checked, so that nothing can fail here.
	s, _ := text.Unquote(p.source[start:p.at])
	return s, true
}

// character reads a byte that represents itself, or an escape.
func (p *parser) character() bool {
	c := p.next()
	if c < ' ' || c > '~' {
		return p.fail(p.at, api.ErrForm)
	}
	p.at++
	return c != '\\' || p.escape()
}

// escape reads what follows a backslash.
func (p *parser) escape() bool {
	if p.next() != 'u' {
		return p.take(shortEscapes)
	}
	p.at++
	return p.take("0") && p.take("0") && p.take(hexDigits) && p.take(hexDigits)
}

func (p *parser) list(level int) (api.Value, bool) {
	v := api.Value{Kind: api.VList}
	ok := p.elements("]", func() bool {
		item, ok := p.value(level + 1)
		v.Items = append(v.Items, item)
		return ok
	})
	return v, ok
}

func (p *parser) object(level int) (api.Value, bool) {
	v := api.Value{Kind: api.VObject}
	seen := map[string]bool{}
	ok := p.elements("}", func() bool {
		key, ok := p.key(seen)
		if !ok {
			return false
		}
		item, ok := p.value(level + 1)
		v.Keys = append(v.Keys, key)
		v.Items = append(v.Items, item)
		return ok
	})
	return v, ok
}

// elements reads a list or an object from its opening byte to its closing one.
func (p *parser) elements(closing string, element func() bool) bool {
	p.at++
	p.skip(spaces)
	if p.nextIn(closing) {
		p.at++
		return true
	}
	for element() {
		p.skip(spaces)
		if p.nextIn(closing) {
			p.at++
			return true
		}
		if !p.take(",") {
			return false
		}
	}
	return false
}

// key reads a key, which must not be among those seen in its object, and the colon after it.
func (p *parser) key(seen map[string]bool) (string, bool) {
	p.skip(spaces)
	start := p.at
	key, ok := p.literal()
	if !ok {
		return "", false
	}
	if seen[key] {
		return "", p.fail(start, api.ErrTwice)
	}
	seen[key] = true
	p.skip(spaces)
	return key, p.take(":")
}
