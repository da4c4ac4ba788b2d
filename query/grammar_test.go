package query_test

import (
	"maps"
	"math/rand"
	"slices"
	"strings"
	"testing"

	"supergraph/api"
	"supergraph/query"
	"supergraph/token"
)

// The grammar of DOC.md, with one more rule for everything that may be repeated or omitted. Other is
// a name other than "on", and Constant is a value without variables.
const grammar = `
Document    = Definition Definitions
Definitions = | Definition Definitions
Definition  = Selections | query Head | mutation Head | subscription Head | fragment Other on Name Selections
Head        = Selections | Name Selections | Variables Selections | Name Variables Selections
Variables   = ( Variable More-vars )
More-vars   = | Variable More-vars
Variable    = $ Name : Type Default
Default     = | = Constant
Selections  = { Selection More-sels }
More-sels   = | Selection More-sels
Selection   = Field | Name : Field | ... Other Directives | ... Directives Selections | ... on Name Directives Selections
Field       = Name Args Directives Set
Set         = | Selections
Args        = | ( Argument More-args )
More-args   = | Argument More-args
Argument    = Name : Value
Directives  = | @ Name Args Directives
Type        = Name Bang | [ Type ] Bang
Bang        = | !
Value       = Int | String | Name | $ Name | [ Values ] | { Pairs }
Values      = | Value Values
Pairs       = | Name : Value Pairs
Constant    = Int | String | Name | [ Constants ] | { Constant-pairs }
Constants   = | Constant Constants
Constant-pairs = | Name : Constant Constant-pairs
`

// An oracle finds out what can follow, as a text of rules and tokens.
type oracle struct {
	rules  map[string][]string
	starts map[string][]choice
}

// A choice is what the next token can be, and what follows it. If it is empty, there is nothing, and the End follows.
type choice struct{ next, rest string }

func newOracle() *oracle {
	o := &oracle{rules: map[string][]string{}, starts: map[string][]choice{}}
	for _, line := range strings.Split(strings.TrimSpace(grammar), "\n") {
		name, alternatives, _ := strings.Cut(line, " = ")
		for _, x := range strings.Split(alternatives, "|") {
			name = strings.TrimSpace(name)
			o.rules[name] = append(o.rules[name], strings.TrimSpace(x))
		}
	}
	return o
}

// start returns how a rule, or a token, can begin.
func (o *oracle) start(name string) []choice {
	alternatives, isRule := o.rules[name]
	if !isRule {
		return []choice{{name, ""}}
	}
	if o.starts[name] == nil {
		for _, x := range alternatives {
			o.starts[name] = append(o.starts[name], o.expand(x)...)
		}
	}
	return o.starts[name]
}

func (o *oracle) expand(text string) []choice {
	if text == "" {
		return []choice{{}}
	}
	var l []choice
	first, rest, _ := strings.Cut(text, " ")
	for _, c := range o.start(first) {
		if c.next == "" {
			l = append(l, o.expand(rest)...)
		} else {
			l = append(l, choice{c.next, strings.TrimSpace(c.rest + " " + rest)})
		}
	}
	return l
}

func fits(x token.Token, next string) bool {
	switch x.Kind {
	case token.Int:
		return next == "Int"
	case token.Text:
		return next == "String"
	case token.Name:
		return next == "Name" || next == "Other" && x.Text != "on" || next == x.Text
	}
	return next == x.Text
}

// malformed returns the index of the first token with which no document can go on, or -1.
func (o *oracle) malformed(tokens []token.Token) int {
	now := []string{"Document"}
	for i, x := range tokens {
		var next []string
		for _, text := range now {
			for _, c := range o.expand(text) {
				if fits(x, c.next) && !slices.Contains(next, c.rest) {
					next = append(next, c.rest)
				}
			}
		}
		if now = next; len(now) == 0 {
			return i
		}
	}
	return -1
}

// check expects what the grammar says of tokens, which are within the limits, and returns the code.
func (o *oracle) check(t *testing.T, l []string) api.Errno {
	t.Helper()
	s := strings.Join(l, " ")
	tokens, at, code := token.Scan(s)
	if code != api.OK {
		checkError(t, s, at, code)
		return code
	}
	wrong := o.malformed(tokens)
	if q, at, code := query.Parse(s); code == api.ErrTwice && len(q.Ops)+len(q.Frags) == 0 {
		return o.checkTwice(t, l, tokens, wrong, at)
	}
	if wrong >= 0 {
		checkError(t, s, tokens[wrong].At, api.ErrForm)
		return api.ErrForm
	}
	checkDocument(t, s)
	return api.OK
}

// checkTwice expects that a name is repeated before the token that is wrong, and that another name
// instead of it, if it really is a key, changes the result.
func (o *oracle) checkTwice(t *testing.T, l []string, tokens []token.Token, wrong, at int) api.Errno {
	t.Helper()
	i := slices.IndexFunc(tokens, func(x token.Token) bool { return x.At == at })
	if i < 0 || tokens[i].Kind != token.Name || wrong >= 0 && i >= wrong || !slices.Contains(l[:i], l[i]) || i > 0 && l[i-1] == ":" {
		t.Errorf("Parse(%q) is %d, ErrTwice", strings.Join(l, " "), at)
		return api.ErrTwice
	}
	renamed := slices.Clone(l)
	renamed[i] = "other" + strings.Repeat("x", i%50)
	if strings.Contains(strings.Join(l, " "), renamed[i]) {
		return api.ErrTwice
	}
	if _, now, code := query.Parse(strings.Join(renamed, " ")); code == api.ErrTwice && now <= at {
		t.Errorf("Parse(%q) is %d, ErrTwice", strings.Join(renamed, " "), now)
	}
	return api.ErrTwice
}

func check(t *testing.T, l []string) api.Errno {
	t.Helper()
	return newOracle().check(t, l)
}

// canGoOn reports whether a document can begin with these tokens.
func (o *oracle) canGoOn(l []string) bool {
	tokens, _, code := token.Scan(strings.Join(l, " "))
	return code == api.OK && o.malformed(tokens[:len(tokens)-1]) < 0
}

func join(lists ...[]string) []string { return slices.Concat(lists...) }

const words = "a query mutation subscription fragment on true null"

// pieces are tokens of all kinds; those that no document contains are among them.
func pieces() []string {
	signs := "! $ & ( ) ... : = @ [ ] { | }"
	return append(strings.Fields(signs+" "+words), "1", `"a"`, `"{"`, `"on"`)
}

// eachContinuation checks l with every sequence of at most most pieces, as far as it can go on.
func (o *oracle) eachContinuation(t *testing.T, l []string, most int) {
	if o.check(t, l); most == 0 || t.Failed() || !o.canGoOn(l) {
		return
	}
	for _, piece := range pieces() {
		o.eachContinuation(t, join(l, []string{piece}), most-1)
	}
}

// P8.1: the first token with which no document can go on.

func TestShortDocuments(t *testing.T) {
	o := newOracle()
	o.eachContinuation(t, nil, 5)
	for _, s := range []string{
		"{ a", "{ a : b", "{ a { b }", "{ a ( x", "{ a ( x : 1", "{ a ( x : 1 )", "{ a ( x : $ v", "{ a ( x : [ 1", "{ a ( x : { k", "{ a ( x : { k : 1", "{ a @ d", "{ a @ d ( x : $ v )",
		"{ ...", "{ ... f", "{ ... f @ d", "{ ... on", "{ ... on T", "{ ... on T @ d", "{ ... @ d", "{ ... { a", "{ a }", "query q", "query q (", "mutation ( $ v",
		"subscription ( $ v : A", "query ( $ v : [ [ A", "query ( $ v : A !", "query ( $ v : A = 1", "query ( $ v : A = [", "query ( $ v : A = { k : 1", "query ( $ v : A )",
		"fragment f", "fragment f on", "fragment f on T", "fragment f on T { a }",
	} {
		o.eachContinuation(t, strings.Fields(s), 3)
	}
}

// whole has every part of the grammar.
const whole = `query q ( $ v : A $ w : [ [ A ! ] ] ! = [ 1 -7 { k : RED l : { } m : "x" } ] $ x : B = true ) {
		n : b ( x : $ v y : [ $ v { k : $ w l : 1 } ] ) @ d @ e ( z : { } ) { ... f @ d ( z : $ w ) ... on T @ d { c } ... { d ... @ e { e } } ... g }
		c ( z : "" ) f @ d g { h }
	} mutation { m } fragment f on T { d { e } ... on U { h } } { q } subscription s { s { t } } query ( $ v : A ) { t } fragment fragment on on { on }`

func tokensOf(s string) []string { return strings.Fields(s) }

// In every place of a document, every piece is added, put in place of a token, or is the last one.
func TestEveryTokenInEveryPlace(t *testing.T) {
	o := newOracle()
	l := tokensOf(whole)
	codes := map[api.Errno]bool{o.check(t, l): true}
	for i := range len(l) + 1 {
		o.check(t, l[:i])
		for _, piece := range append(pieces(), "k", "l", "01", "%") {
			middle := []string{piece}
			codes[o.check(t, join(l[:i], middle))] = true
			codes[o.check(t, join(l[:i], middle, l[i:]))] = true
			if i < len(l) {
				codes[o.check(t, join(l[:i], middle, l[i+1:]))] = true
			}
		}
		if t.Failed() {
			return
		}
	}
	if want := []api.Errno{api.OK, api.ErrForm, api.ErrTwice}; !slices.Equal(slices.Sorted(maps.Keys(codes)), want) {
		t.Error(codes)
	}
}

// Tokens are left out, repeated, moved and exchanged.
func TestChangedDocuments(t *testing.T) {
	o := newOracle()
	r := rand.New(rand.NewSource(8))
	codes := map[api.Errno]int{}
	check := func(l []string) {
		if !t.Failed() {
			codes[o.check(t, l)]++
		}
	}
	l := tokensOf(whole)
	for i := range l {
		check(slices.Delete(slices.Clone(l), i, i+1))
		for k := range i {
			changed := slices.Clone(l)
			changed[i], changed[k] = changed[k], changed[i]
			check(changed)
		}
	}
	for range 3000 {
		// Without long lists, the changed documents are within the limits, too.
		l := tokensOf(source{Rand: r, rare: 1 << 40}.document())
		for range 3 {
			from := r.Intn(len(l) + 1)
			to := min(len(l), from+r.Intn(4))
			some := r.Intn(len(l) + 1)
			l = slices.Replace(slices.Clone(l), from, to, l[some:min(len(l), some+r.Intn(4))]...)
			if len(l) < 200 {
				check(l)
			}
		}
	}
	if codes[api.OK] < 100 || codes[api.ErrForm] < 1000 || codes[api.ErrTwice] < 10 {
		t.Error(codes)
	}
}
