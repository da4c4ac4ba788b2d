package token_test

import (
	"slices"
	"strings"
	"testing"

	"supergraph/api"
	"supergraph/token"
)

// P4.4

// checkPlaces expects the indices that the promise states, and reports whether s has tokens at all.
func checkPlaces(t *testing.T, s string) {
	t.Helper()
	if t.Failed() {
		return
	}
	l, _, code := token.Scan(s)
	if code != api.OK {
		return
	}
	after := 0
	for i, x := range l {
		if x.At < after || x.At > len(s) {
			t.Errorf("Scan(%q): the token %d, %v, begins before %d", s, i, x, after)
			return
		}
		if (x.Kind == token.End) != (i == len(l)-1) {
			t.Errorf("Scan(%q): the token %d is %v", s, i, x)
		}
		switch x.Kind {
		case token.Sign, token.Name, token.Int:
			if !strings.HasPrefix(s[x.At:], x.Text) || x.Text == "" {
				t.Errorf("Scan(%q): %v is not found", s, x)
			}
			after = x.At + len(x.Text)
		case token.Text:
			if !strings.HasPrefix(s[x.At:], `"`) {
				t.Errorf("Scan(%q): %v is not found", s, x)
			}
			after = x.At + len(x.Text) + 2
		case token.End:
			if x.At != len(s) || x.Text != "" {
				t.Errorf("Scan(%q) ends with %v", s, x)
			}
		default:
			t.Errorf("Scan(%q): %v", s, x)
		}
	}
}

func TestPlaces(t *testing.T) {
	check := func(s string) { checkPlaces(t, s) }
	eachString(strings.Split("a1-.\"\\# \n{", ""), 5, check)
	eachRandom(check)
}

// addSeparators returns s with separators before and after the token with the index i.
func addSeparators(s string, tokens []token.Token, bytes []string, i int, before, after string) string {
	from := tokens[i].At
	to := from + len(bytes[i])
	return s[:from] + before + s[from:to] + after + s[to:]
}

func checkSeparated(t *testing.T, s string, separators []string) {
	t.Helper()
	if t.Failed() {
		return
	}
	tokens, bytes, _, code := expectedScan(s)
	if code != api.OK {
		return
	}
	want := withoutPlaces(tokens)
	for i := range tokens {
		for k, before := range separators {
			after := separators[(i+k)%len(separators)]
			changed := addSeparators(s, tokens, bytes, i, before, after)
			if got, _, code := token.Scan(changed); !slices.Equal(withoutPlaces(got), want) || code != api.OK {
				t.Errorf("Scan(%q) is %v, %d, unlike that of %q", changed, got, code, s)
			}
		}
	}
}

func TestSeparatorsAroundTokens(t *testing.T) {
	separators := []string{"", " ", "\t", "\n", "\r", ",", " \t\n\r,", "#\n", "#\r", "# \"a\n", "#é\xff\x00\r", ",#{\n#}\r ", "#\\\n"}
	count := 0
	eachRandom(func(s string) {
		if len(s) < 60 {
			count++
			checkSeparated(t, s, separators)
		}
	})
	if count < 1000 {
		t.Error("too few documents:", count)
	}
	check := func(s string) { checkSeparated(t, s, separators) }
	eachString([]string{"a", "1", "-1", `""`, `"\\"`, "...", "{", " "}, 4, check)
}

// A comment at the end needs no line feed.
func TestCommentAtTheEnd(t *testing.T) {
	eachRandom(func(s string) {
		tokens, _, code := token.Scan(s)
		if code != api.OK {
			return
		}
		for _, comment := range []string{"#", "# a", "#\"", "\n#é{\xff"} {
			got, _, code := token.Scan(s + comment)
			if !slices.Equal(withoutPlaces(got), withoutPlaces(tokens)) || code != api.OK {
				t.Errorf("Scan(%q) is %v, %d", s+comment, got, code)
			}
		}
	})
}
