package typeref

import (
	"slices"
	"strings"

	"supergraph/api"
	"supergraph/token"
)

// The signs of type references.
const (
	opening = "["
	closing = "]"
	bang    = "!"
)

// Print returns the text of t without spaces.
func Print(t api.Ref) string {
	var printed strings.Builder
	printed.WriteString(strings.Repeat(opening, len(withoutNonNull(t.Wraps))))
	printed.WriteString(t.Name)
	for _, w := range slices.Backward(t.Wraps) {
		if w == api.WNonNull {
			printed.WriteString(bang)
		} else {
			printed.WriteString(closing)
		}
	}
	return printed.String()
}

// Parse returns the reference that s represents.
func Parse(s string) (api.Ref, api.Errno) {
	tokens, _, code := token.Scan(s)
	if code != api.OK {
		return api.Ref{}, code
	}
	r := reader{tokens: tokens}
	t, ok := r.reference()
	if !ok {
		return api.Ref{}, api.ErrForm
	}
	if len(t.Wraps) > api.MaxDepth {
		return api.Ref{}, api.ErrDepth
	}
	return t, api.OK
}

// A reader takes one token after the other, but never the last one, the End.
type reader struct {
	tokens []token.Token
}

// reference reads a Type and the End. It does not call itself, because a document can contain many
// more brackets than a reference can have levels.
func (r *reader) reference() (api.Ref, bool) {
	lists := 0
	for r.sign(opening) {
		lists++
	}
	name, ok := r.name()
	if !ok {
		return api.Ref{}, false
	}
	inward := r.nonNull(nil)
	for range lists {
		if !r.sign(closing) {
			return api.Ref{}, false
		}
		inward = r.nonNull(append(inward, api.WList))
	}
	slices.Reverse(inward)
	return api.Ref{Name: name, Wraps: inward}, r.tokens[0].Kind == token.End
}

func (r *reader) nonNull(wraps []int) []int {
	if r.sign(bang) {
		return append(wraps, api.WNonNull)
	}
	return wraps
}

func (r *reader) sign(s string) bool {
	t := r.tokens[0]
	if t.Kind != token.Sign || t.Text != s {
		return false
	}
	r.tokens = r.tokens[1:]
	return true
}

func (r *reader) name() (string, bool) {
	t := r.tokens[0]
	if t.Kind != token.Name {
		return "", false
	}
	r.tokens = r.tokens[1:]
	return t.Text, true
}
