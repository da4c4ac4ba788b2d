package sdlprint_test

import (
	"math/rand"
	"strings"
	"testing"

	"supergraph/api"
	"supergraph/sdl"
	"supergraph/sdlprint"
	"supergraph/token"
)

// P7.3

// checkTrip expects that the text of a right document is read as the document, and printed again as it was.
func checkTrip(t *testing.T, d api.Doc) {
	t.Helper()
	s := sdlprint.Print(d)
	got, at, code := sdl.Parse(s)
	if len(s) > api.MaxText {
		if at != api.MaxText || code != api.ErrSize {
			t.Errorf("%q with %d bytes: %d, %d", brief(s), len(s), at, code)
		}
		return
	}
	if !same(got, d) || at != 0 || code != api.OK {
		t.Errorf("%q is read as %q, %d, %d", brief(s), brief(sdlprint.Print(got)), at, code)
	}
	if again := sdlprint.Print(got); again != s {
		t.Errorf("%q is printed again as %q", brief(s), brief(again))
	}
}

func TestPrintedDocumentsAreRead(t *testing.T) {
	read, long := 0, 0
	eachRight(func(_ source, d api.Doc) {
		if t.Failed() {
			return
		}
		if len(sdlprint.Print(d)) > api.MaxText {
			long++
		} else {
			read++
		}
		checkTrip(t, d)
	})
	if read < 1000 || long < 3 {
		t.Error("too few documents:", read, long)
	}
}

// Documents whose text has about MaxText bytes.
func TestPrintedDocumentsOfTheGreatestLength(t *testing.T) {
	for length := api.MaxText - 3; length <= api.MaxText+3; length++ {
		d := doc(api.Def{Kind: api.DInput, Name: "I", Inputs: []api.Input{{Name: "a", Type: ref("String"), Has: true, Default: str("")}}})
		rest := length - len(sdlprint.Print(d))
		d.Defs[0].Inputs[0].Default = str(strings.Repeat("x", rest))
		if n := len(sdlprint.Print(d)); n != length {
			t.Error("the text has", n, "bytes, not", length)
		}
		checkTrip(t, d)
		if _, _, code := sdl.Parse(sdlprint.Print(d)); (code == api.OK) != (length <= api.MaxText) {
			t.Error(length, code)
		}
	}
}

// checkRead expects that what a text is read as is printed so that it is read again.
func checkRead(t *testing.T, s string) bool {
	t.Helper()
	d, _, code := sdl.Parse(s)
	if code == api.OK {
		checkTrip(t, d)
	}
	return code == api.OK
}

func TestWhatIsReadIsPrinted(t *testing.T) {
	for _, s := range []string{
		"type A { x(a: Int = 1): [Int!] @b }", "enum E { A B } union U = X | Y input I { a: [Int] = [1 2] b: J = {c: RED} }",
		"type type implements type&type@type(type:type){type(type:type=type):type}", "input implements @implements{implements:input={input:[\"\\/\\b\\u00fF\",,]}}",
		"interface true{null:[[[false!]!]]}#union", "union on@a(a:$)=b", "union on@a(a:[{}[]{a:{}}])=b|c|b", "enum E@a@b(c:-9223372036854775808){true@x(y:false)null}",
	} {
		if checkRead(t, s) == strings.Contains(s, "$") {
			t.Errorf("%q is not read as expected", s)
		}
	}
	random := rand.New(rand.NewSource(8))
	separators := []string{" ", "\t", "\n", "\r", ",", "#\n", "# type A { x: Int } \"\r", " ,, \t"}
	words := strings.Fields(`type interface union enum input implements a A { } ( ) : = @ | & [ ] ! 1 -7 "x" "\u0041" null true $ ...`)
	read := 0
	eachRight(func(_ source, d api.Doc) {
		if t.Failed() {
			return
		}
		tokens, _, _ := token.Scan(sdlprint.Print(d))
		if len(tokens) > 300 {
			return
		}
		for changes := range 3 {
			s := ""
			for _, x := range tokens {
				part := token.Print([]token.Token{x})
				if changes > 0 && random.Intn(len(tokens)) == 0 {
					part = words[random.Intn(len(words))]
				}
				s += separators[random.Intn(len(separators))] + part
			}
			if checkRead(t, s) {
				read++
			}
		}
	})
	if read < 1000 {
		t.Error("too few documents:", read)
	}
}
