package sdl_test

import (
	"maps"
	"math/rand"
	"regexp"
	"slices"
	"strings"
	"testing"

	"supergraph/api"
	"supergraph/sdl"
	"supergraph/token"
)

// The grammar as DOC.md states it; each line is an alternative.
const grammar = `
Document    Definition+
Definition  "type" Name Implements? Directive* "{" Field+ "}"
            "interface" Name Directive* "{" Field+ "}"
            "union" Name Directive* "=" Name ("|" Name)*
            "enum" Name Directive* "{" (Name Directive*)+ "}"
            "input" Name Directive* "{" Input+ "}"
Implements  "implements" Name ("&" Name)*
Field       Name ("(" Input+ ")")? ":" Type Directive*
Input       Name ":" Type ("=" Value)? Directive*
Type        (Name | "[" Type "]") "!"?
Directive   "@" Name ("(" (Name ":" Value)+ ")")?
Value       Int | String | "true" | "false" | "null" | Name | "[" Value* "]" | "{" (Name ":" Value)* "}"
`

// An expression is a part of the grammar: a sequence (,), alternatives (|), something that may be
// repeated (*) or omitted (?), the name of a rule, or what a token must be.
type expression struct {
	sign  byte
	text  string
	parts []*expression
}

// A reading is what can still follow: expressions, one after the other. Readings with the same
// expressions are the same pointer.
type reading struct {
	first *expression
	rest  *reading
}

// A choice is what the next token can be (the empty string for the End), and what follows it.
type choice struct {
	text string
	rest *reading
}

type oracle struct {
	rules    map[string]*expression
	readings map[reading]*reading
	choices  map[*reading][]choice
}

func newOracle() *oracle {
	o := &oracle{rules: map[string]*expression{}, readings: map[reading]*reading{}, choices: map[*reading][]choice{}}
	rule := ""
	for _, line := range strings.Split(strings.TrimSpace(grammar), "\n") {
		parts := regexp.MustCompile(`"[^"]*"|\w+|[()|*+?]`).FindAllString(line, -1)
		if line[0] != ' ' {
			rule, parts = parts[0], parts[1:]
			o.rules[rule] = &expression{sign: '|'}
		}
		x, _ := alternatives(parts)
		o.rules[rule].parts = append(o.rules[rule].parts, x)
	}
	return o
}

func alternatives(parts []string) (*expression, []string) {
	x := &expression{sign: '|'}
	sequence := &expression{sign: ','}
	for len(parts) > 0 && parts[0] != ")" {
		if parts[0] == "|" {
			x.parts = append(x.parts, sequence)
			sequence, parts = &expression{sign: ','}, parts[1:]
			continue
		}
		part := &expression{text: parts[0]}
		parts = parts[1:]
		if part.text == "(" {
			part, parts = alternatives(parts)
			parts = parts[1:]
		}
		if len(parts) > 0 && strings.Contains("*+?", parts[0]) {
			if parts[0] == "+" {
				sequence.parts = append(sequence.parts, part)
				parts[0] = "*"
			}
			part = &expression{sign: parts[0][0], parts: []*expression{part}}
			parts = parts[1:]
		}
		sequence.parts = append(sequence.parts, part)
	}
	x.parts = append(x.parts, sequence)
	return x, parts
}

func (o *oracle) then(first *expression, rest *reading) *reading {
	x := reading{first, rest}
	if o.readings[x] == nil {
		o.readings[x] = &x
	}
	return o.readings[x]
}

// next returns the choices of a reading.
func (o *oracle) next(r *reading) []choice {
	if r == nil {
		return []choice{{}}
	}
	if o.choices[r] == nil {
		o.choices[r] = o.expand(r.first, r.rest)
	}
	return o.choices[r]
}

func (o *oracle) expand(x *expression, rest *reading) []choice {
	var l []choice
	switch x.sign {
	case '|':
		for _, part := range x.parts {
			l = append(l, o.next(o.then(part, rest))...)
		}
		return l
	case ',':
		for _, part := range slices.Backward(x.parts) {
			rest = o.then(part, rest)
		}
		return o.next(rest)
	case '*':
		return append(append(l, o.next(rest)...), o.next(o.then(x.parts[0], o.then(x, rest)))...)
	case '?':
		return append(append(l, o.next(rest)...), o.next(o.then(x.parts[0], rest))...)
	}
	if rule := o.rules[x.text]; rule != nil {
		return o.next(o.then(rule, rest))
	}
	return []choice{{x.text, rest}}
}

func fits(x token.Token, text string) bool {
	switch x.Kind {
	case token.End:
		return text == ""
	case token.Int:
		return text == "Int"
	case token.Text:
		return text == "String"
	case token.Name:
		return text == "Name" || text == `"`+x.Text+`"`
	}
	return text == `"`+x.Text+`"`
}

// malformed returns the index of the first token with which no document can go on, or -1.
func (o *oracle) malformed(tokens []token.Token) int {
	now := map[*reading]bool{o.then(&expression{text: "Document"}, nil): true}
	for i, x := range tokens {
		next := map[*reading]bool{}
		for r := range now {
			for _, c := range o.next(r) {
				if fits(x, c.text) {
					next[c.rest] = true
				}
			}
		}
		if now = next; len(now) == 0 {
			return i
		}
	}
	return -1
}

// repeated returns the index of the first repeated key, or -1. Only values have braces within
// brackets, or after a colon or an equals sign.
func repeated(tokens []token.Token) int {
	before := ""
	open := []string{}
	keys := []map[string]bool{}
	for i, x := range tokens {
		inObject := len(open) > 0 && open[len(open)-1] == "object"
		text := map[bool]string{true: x.Text}[x.Kind == token.Sign]
		switch text {
		case "{":
			kind := "block"
			if len(open) > 0 && open[len(open)-1] == "[" || before == ":" || before == "=" {
				kind = "object"
			}
			open, keys = append(open, kind), append(keys, map[string]bool{})
		case "[":
			open, keys = append(open, "["), append(keys, nil)
		case "}", "]":
			if len(open) > 0 {
				open, keys = open[:len(open)-1], keys[:len(keys)-1]
			}
		}
		if inObject && x.Kind == token.Name && before != ":" {
			if seen := keys[len(keys)-1]; seen[x.Text] {
				return i
			} else {
				seen[x.Text] = true
			}
		}
		before = text
	}
	return -1
}

// check expects what the grammar says of s, which is within the limits, and returns the code.
func (o *oracle) check(t *testing.T, s string) api.Errno {
	t.Helper()
	tokens, at, code := token.Scan(s)
	if code != api.OK {
		checkError(t, s, at, code)
		return code
	}
	wrong, twice := o.malformed(tokens), repeated(tokens)
	switch {
	case twice >= 0 && (wrong < 0 || twice < wrong):
		checkError(t, s, tokens[twice].At, api.ErrTwice)
		return api.ErrTwice
	case wrong >= 0:
		checkError(t, s, tokens[wrong].At, api.ErrForm)
		return api.ErrForm
	}
	d, at, code := sdl.Parse(s)
	if !sdl.Right(d) || at != 0 || code != api.OK {
		t.Errorf("Parse(%q) is %d, %d", s, at, code)
	} else if got, want := write(d).text(), token.Print(tokens); got != want {
		t.Errorf("Parse(%q) is that of %q", s, got)
	}
	return api.OK
}

// canGoOn reports whether a document can begin with s.
func (o *oracle) canGoOn(s string) bool {
	tokens, _, code := token.Scan(s)
	return code == api.OK && o.malformed(tokens[:len(tokens)-1]) < 0
}

// pieces are tokens of all kinds; those that no document contains are among them.
func pieces() []string {
	return []string{"!", "$", "&", "(", ")", "...", ":", "=", "@", "[", "]", "{", "|", "}", "a", "type", "interface", "union", "enum", "input", "implements", "true", "null", "1", `"a"`, `"{"`, `"type"`}
}

// eachContinuation checks s with every sequence of at most most pieces, as far as it can go on.
func (o *oracle) eachContinuation(t *testing.T, s string, most int) {
	if o.check(t, s); most == 0 || t.Failed() || !o.canGoOn(s) {
		return
	}
	for _, piece := range pieces() {
		o.eachContinuation(t, s+" "+piece, most-1)
	}
}

// P6.1: the first token with which no document can go on.

func TestShortDocuments(t *testing.T) {
	o := newOracle()
	o.eachContinuation(t, "", 6)
	for _, s := range []string{
		"type A {", "type A { x", "type A { x ( a", "type A { x ( a : B = 1", "type A { x ( a : B )", "type A { x : [", "type A { x : [ B ! ]",
		"type A implements B", "type A @ b", "type A @ b ( c : 1", "type A @ b ( c : [", "interface A @ b {", "union A @ b = B", "enum A { B",
		"enum A { B @ b", "input A { x", "input A { x : B", "input A { x : B = [", "input A { x : B = {", "input A { x : B = { a : [ 1 ]", "enum A { B } type",
	} {
		o.eachContinuation(t, s, 3)
	}
}

// whole has every part of the grammar.
const whole = `type A implements I & J @ a ( b : 1 c : "x" ) @ d { x : A y ( e : A = - 1 f : [ A ! ] ! = [ 1 true ] @ g h : I ) : [ [ A ] ! ] @ i z : A ! }
	interface I @ a { x : A } union U @ a @ b = A | B | C union V = A enum E @ a { A B @ a @ b C } enum F { A }
	input N @ a { a : N = { c : RED d : null e : { } f : [ { g : [ ] } ] } b : Int = - 7 @ a } type A { x : A }`

func tokensOf(s string) []string { return strings.Fields(strings.ReplaceAll(s, "- ", "-")) }

// In every place of a document, every piece is added, put in place of a token, or is the last one.
func TestEveryTokenInEveryPlace(t *testing.T) {
	o := newOracle()
	parts := tokensOf(whole)
	codes := map[api.Errno]bool{o.check(t, strings.Join(parts, " ")): true}
	for i := range len(parts) + 1 {
		before, after := strings.Join(parts[:i], " "), strings.Join(parts[i:], " ")
		o.check(t, before)
		for _, piece := range append(pieces(), "c", "RED", "01", "%") {
			codes[o.check(t, before+" "+piece)] = true
			codes[o.check(t, before+" "+piece+" "+after)] = true
			if i < len(parts) {
				codes[o.check(t, before+" "+piece+" "+strings.Join(parts[i+1:], " "))] = true
			}
		}
		if t.Failed() {
			return
		}
	}
	if want := []api.Errno{api.OK, api.ErrForm, api.ErrTwice}; !slices.Equal(slices.Sorted(maps.Keys(codes)), want) {
		t.Error(codes)
	}
}

// Tokens are left out, moved, repeated and exchanged.
func TestChangedDocuments(t *testing.T) {
	o := newOracle()
	r := rand.New(rand.NewSource(8))
	codes := map[api.Errno]int{}
	check := func(parts []string) {
		if !t.Failed() {
			codes[o.check(t, strings.Join(parts, " "))]++
		}
	}
	parts := tokensOf(whole)
	for i := range parts {
		check(slices.Delete(slices.Clone(parts), i, i+1))
		for k := range parts {
			changed := slices.Clone(parts)
			changed[i], changed[k] = changed[k], changed[i]
			if r.Intn(4) == 0 {
				check(changed)
			}
		}
	}
	for range 4000 {
		random := source{Rand: r, rare: 1 << 40, wild: true}
		parts := write(random.document()).tokens
		for range 1 + r.Intn(2) {
			from := r.Intn(len(parts) + 1)
			to := min(len(parts), from+r.Intn(4))
			some := r.Intn(len(parts) + 1)
			parts = slices.Replace(slices.Clone(parts), from, to, parts[some:min(len(parts), some+r.Intn(4))]...)
		}
		if len(parts) < 300 {
			check(parts)
		}
	}
	if codes[api.OK] < 100 || codes[api.ErrForm] < 1000 || codes[api.ErrTwice] < 30 {
		t.Error(codes)
	}
}
