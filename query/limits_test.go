package query_test

import (
	"slices"
	"strconv"
	"strings"
	"testing"

	"supergraph/api"
	"supergraph/query"
)

// P8.1: the limits of lists.

// A list in a document: what is before its elements, each of its elements, and what is after them.
type list struct {
	before, element, after string
	most                   int
	begins                 string // the pieces that can begin one more element
}

const (
	keywords   = "query mutation subscription fragment {"
	selections = words + " ..."
)

func lists() []list {
	return []list{
		{"", "{ a }", "", 64, keywords},
		{"", "query q ( $ v : A ) { a }", "", 64, keywords},
		{"", "mutation { a { b } }", "", 64, keywords},
		{"", "fragment f on T { a }", "", 64, keywords},
		{"", "fragment f on T { a }", "{ a }", 63, ""},
		{"{ a }", "fragment f on T { a }", "subscription { a }", 62, ""},
		{"{", "a", "}", 64, selections},
		{"query q ( $ v : A ) {", "a : b ( x : 1 ) @ d", "}", 64, selections},
		{"fragment f on T {", "... f", "}", 64, selections},
		{"{ a {", "... @ d { b }", "} }", 64, selections},
		{"{ a : b ( x : 1 ) @ d {", "... on T { b }", "} c }", 64, selections},
		{"{ ... {", "a { b c }", "} ... f }", 64, selections},
		{"{ ... on T @ d {", "... f @ d", "} }", 64, selections},
		{"query (", "$ v : A", ") { a }", 16, "$"},
		{"{ a } mutation m (", "$ v : [ A ! ] = [ 1 ]", ") { a }", 16, "$"},
		{"{ a (", "x : 1", ") }", 16, words},
		{"{ a : b (", "x : [ $ v 1 ]", ") @ d { c } }", 16, words},
		{"{ a", "@ d", "}", 16, "@"},
		{"{ a { b : c ( x : 1 )", "@ d ( x : 1 )", "{ d } } }", 16, "@"},
		{"{ ... f", "@ d", "@ d }", 15, ""},
		{"{ ... f", "@ d", "}", 16, "@"},
		{"{ ...", "@ d ( x : { } )", "{ a } }", 16, "@"},
		{"{ ... on T", "@ d", "{ a } }", 16, "@"},
		{"{ a @ d (", "x : 1", ") }", 16, words},
		{"{ ... f @ d @ e (", "x : $ v", ") }", 16, words},
		{"{ ... on T @ e (", "x : { k : 1 }", ") @ d { a } }", 16, words},
	}
}

// text returns a document with so many elements, without what is after them.
func (l list) text(count int) string {
	return strings.TrimSpace(l.before + strings.Repeat(" "+l.element, count))
}

func TestListsUpToTheLimit(t *testing.T) {
	for _, l := range lists() {
		for count := 1; count <= l.most; count++ {
			checkDocument(t, l.text(count)+" "+l.after)
		}
		if l.begins == "" {
			continue
		}
		for _, count := range []int{l.most + 1, l.most + 2, 3 * l.most} {
			at := len(l.text(l.most)) + 1
			checkError(t, l.text(count)+" "+l.after, at, api.ErrSize)
			checkError(t, l.text(count), at, api.ErrSize)
		}
	}
}

// One element more is found at its first token, whatever follows that, and only if this token can begin an element.
func TestWhatBeginsOneMore(t *testing.T) {
	o := newOracle()
	for _, l := range lists() {
		full := l.text(l.most)
		for _, piece := range pieces() {
			s := full + " " + piece
			switch {
			case slices.Contains(strings.Fields(l.begins), piece):
				for _, rest := range []string{"", " x", " :", " 1", " }", " " + l.after} {
					checkError(t, s+rest, len(full)+1, api.ErrSize)
				}
			case !o.canGoOn(tokensOf(s)):
				checkError(t, s, len(full)+1, api.ErrForm)
			}
		}
	}
}

// Lists are counted apart; the operations and the fragments of a document are counted together.
func TestListsAreCountedApart(t *testing.T) {
	args := " ( " + strings.Repeat("x : 1 ", 16) + ") "
	dirs := strings.Repeat("@ d ", 15) + "@ d" + args
	vars := " ( " + strings.Repeat("$ v : A ", 16) + ") "
	set := func(selection string) string { return "{ " + strings.Repeat(selection+" ", 64) + "} " }
	checkDocument(t, strings.Repeat(set("a"), 64))
	checkDocument(t, strings.Repeat("fragment f on T "+set("... f"), 64))
	checkDocument(t, strings.Repeat("query "+vars+set("a"), 32))
	checkDocument(t, set("a "+set("b"))+set("... "+set("b")))
	checkDocument(t, set("a"+args+dirs)+"query "+vars+"{ a"+args+dirs+"{ b"+args+dirs+" ... f "+dirs+" ... "+dirs+set("c")+"} }")
	for fragments := range 65 {
		s := strings.Repeat("{ a } ", 64-fragments) + strings.Repeat("fragment f on T { a } ", fragments)
		checkDocument(t, s)
		checkError(t, s+"{ a }", len(s), api.ErrSize)
		checkError(t, s+"fragment", len(s), api.ErrSize)
	}
}

// P8.1: the levels of selection sets.

// nest returns the beginning of a document with this many selection sets within each other, and their ends.
func nest(start string, levels int, enclosing ...string) (string, string) {
	s := start + " {"
	for i := range levels - 1 {
		s += " " + enclosing[i%len(enclosing)] + " {"
	}
	return s, strings.Repeat(" }", levels)
}

func TestSelectionLevels(t *testing.T) {
	for _, start := range []string{"", "query q ( $ v : A = { } )", "mutation", "fragment f on T", "{ a { b } }"} {
		for _, enclosing := range [][]string{{"a"}, {"..."}, {"... on T @ d"}, {"b a : b ( x : { k : 1 } ) @ d", "... on T", "c ... @ d"}} {
			for levels := 1; levels <= 24; levels++ {
				before, after := nest(start, levels, enclosing...)
				for _, s := range []string{" a", " ... f", " a b : c @ d ( x : [ 1 ] )"} {
					checkDocument(t, before+s+after)
					checkDocument(t, before+s+after+" "+before+s+after)
				}
			}
			for _, levels := range []int{25, 26, 40} {
				before, after := nest(start, levels, enclosing...)
				deepest, _ := nest(start, 25, enclosing...)
				for _, rest := range []string{"", " a", " a" + after, " }", " 1", " ("} {
					checkError(t, before+rest, len(deepest)-1, api.ErrDepth)
				}
			}
			// Only a brace begins a selection set.
			before, _ := nest(start, 24, enclosing...)
			for _, wrong := range []string{"}", "(", ")", "1", "$", "[", `"{"`} {
				checkError(t, before+" ... "+wrong, len(before)+5, api.ErrForm)
				checkError(t, before+" ... on T "+wrong, len(before)+10, api.ErrForm)
			}
			checkError(t, before+" }", len(before)+1, api.ErrForm)
			checkError(t, before+" a", len(before)+2, api.ErrForm)
		}
	}
	s := strings.Repeat("{a", 20000)
	checkError(t, s, 48, api.ErrDepth)
	checkError(t, strings.Repeat("{...", 16000), 96, api.ErrDepth)
}

// Levels are those within each other, and values have levels of their own.
func TestLevelsAreCountedApart(t *testing.T) {
	before, after := nest("", 23, "a")
	s := before + " b { c } d { ... f } ... { e } ... on T { g }" + after
	checkDocument(t, s+s)
	checkError(t, before+" b { c { d } }"+after, len(before)+7, api.ErrDepth)
	checkError(t, before+" b { c } d { e ... { f } }"+after, len(before)+19, api.ErrDepth)
	deep := strings.Repeat("[ ", 23) + strings.Repeat("] ", 23)
	before, after = nest("query ( $ v : A = [ "+deep+"] )", 24, "a ( x : [ "+deep+"] )")
	checkDocument(t, before+" a ( x : [ "+deep+"] y : { k : "+deep+"} ) @ d ( x : [ "+deep+"] )"+after)
}

// P8.1: the limits of types.

func TestTypeDepth(t *testing.T) {
	for _, start := range []string{"query ( $ v : ", "mutation m ( $ v : A = 1 $ w : "} {
		for wraps := range 60 {
			for _, x := range []string{
				strings.Repeat("[ ", wraps) + "B" + strings.Repeat(" ]", wraps),
				strings.Repeat("[ ", wraps/2) + "B" + strings.Repeat(" ! ]", wraps/2) + strings.Repeat(" !", wraps%2),
				strings.Repeat("[ ", wraps/2) + "B" + strings.Repeat(" !", wraps%2) + strings.Repeat(" ] !", wraps/2),
			} {
				if wraps <= api.MaxDepth {
					checkDocument(t, start+x+" ) { a }")
					checkDocument(t, start+x+" = 1 $ y : "+x+" ) { a }")
					continue
				}
				for _, rest := range []string{"", " 1", " ]", " @ d", " )", " = 1 ) { a }", " $ y : C ) { a }"} {
					checkError(t, start+x+rest, len(start), api.ErrDepth)
				}
			}
		}
	}
}

// A type that is too deep is found at its last token: its exclamation mark belongs to it, and what is malformed before comes first.
func TestTypeDepthIsFoundAtTheEnd(t *testing.T) {
	const start = "query ( $ v : "
	opening, closing := strings.Repeat("[ ", 25), strings.Repeat(" ]", 25)
	for _, rest := range []string{" !", " ! !", " ! ]", " ]", " ["} {
		checkError(t, start+opening+"B"+closing+rest, len(start), api.ErrDepth)
	}
	for _, wrong := range []string{"1", "!", "]", "{", ")", ":", "$", `"B"`} {
		checkError(t, start+opening+wrong, len(start+opening), api.ErrForm)
	}
	for _, wrong := range []string{"1", "[", "{", ")", "=", "@", "B", `"]"`} {
		s := start + opening + "B" + closing[2:] + " "
		checkError(t, s+wrong, len(s), api.ErrForm)
	}
	checkError(t, start+opening+"B ! !"+closing, len(start+opening)+4, api.ErrForm)
	checkError(t, start+opening+"B"+closing[2:], len(start+opening)+1+len(closing)-2, api.ErrForm)
	long := strings.Repeat("[", 32000)
	checkError(t, "query($v:"+long+"B"+strings.Repeat("]", 32000), 9, api.ErrDepth)
	checkError(t, "query($v:"+long+"B!"+strings.Repeat("]", 31999), 9+32000+2+31999, api.ErrForm)
	checkError(t, "query($v:"+long+long, 9+64000, api.ErrForm)
}

// P8.1: the limits of values.

// beginnings returns the pieces that can begin a value in the context with this number.
func beginnings(context int) []string {
	l := strings.Fields(words + ` 1 "a" "{" "on" [ {`)
	if context < constants {
		l = append(l, "$")
	}
	return l
}

func TestValueLevels(t *testing.T) {
	for i, around := range valued() {
		leaves := []string{"1", "[ ]", "{ }", "null", "A", `""`}
		if i < constants {
			leaves = append(leaves, "$ v")
		}
		for n := range 24 {
			for _, s := range leaves {
				checkDocument(t, around[0]+strings.Repeat("[ ", n)+s+strings.Repeat(" ]", n)+around[1])
				checkDocument(t, around[0]+strings.Repeat("[ 1 { a : ", n/2)+s+strings.Repeat(" } 1 ]", n/2)+around[1])
			}
		}
		for _, opening := range []string{strings.Repeat("[ ", 24), strings.Repeat("{ a : ", 24), strings.Repeat("[ { a : ", 12), "[ 1 [ [ ] ] " + strings.Repeat("{ a : ", 23)} {
			s := around[0] + opening
			for _, piece := range pieces() {
				switch {
				case slices.Contains(beginnings(i), piece):
					for _, rest := range []string{"", " 1", " :", around[1]} {
						checkError(t, s+piece+rest, len(s), api.ErrDepth)
					}
				case piece != "]" || strings.HasSuffix(opening, ": "):
					checkError(t, s+piece, len(s), api.ErrForm)
				}
			}
			checkError(t, s, len(s), api.ErrForm)
		}
		checkError(t, around[0]+strings.Repeat("[", 10000), len(around[0])+24, api.ErrDepth)
	}
}

func TestValueNodes(t *testing.T) {
	for i, around := range valued() {
		for k, x := range []struct {
			item  string
			nodes int
		}{{"1 ", 1}, {"A ", 1}, {"[]", 1}, {"{}", 1}, {`""`, 1}, {"[1]", 2}, {"{a:1}", 2}, {"{a:[1 2]b:A}", 5}, {"$v", 1}, {"[$v]", 2}} {
			hasVariable := strings.Contains(x.item, "$")
			if hasVariable && i >= constants || !hasVariable && k%4 != i%4 {
				continue
			}
			count := (api.MaxNodes - 1) / x.nodes
			// Single values fill what the repeated item leaves.
			full := around[0] + "[" + strings.Repeat(x.item, count) + strings.Repeat("7 ", api.MaxNodes-1-count*x.nodes)
			if _, at, code := query.Parse(full + "]" + around[1]); at != 0 || code != api.OK {
				t.Errorf("Parse(%q) is %d, %d", brief(full), at, code)
			}
			for _, piece := range pieces() {
				switch {
				case slices.Contains(beginnings(i), piece):
					checkError(t, full+" "+piece, len(full)+1, api.ErrSize)
					checkError(t, full+" "+piece+"]"+around[1], len(full)+1, api.ErrSize)
				case piece != "]":
					checkError(t, full+" "+piece, len(full)+1, api.ErrForm)
				}
			}
		}
	}
}

// The values of an object are counted, but not its keys.
func TestValueNodesOfObjects(t *testing.T) {
	s := "{ a ( x : {"
	for i := range api.MaxNodes - 1 {
		s += "k" + strconv.Itoa(i) + ":0 "
	}
	checkDocument(t, s+"} ) }")
	checkError(t, s+"k:", len(s)+2, api.ErrForm)
	checkError(t, s+"k:$v} ) }", len(s)+2, api.ErrSize)
	checkError(t, s+"k7:0} ) }", len(s), api.ErrTwice)
	checkError(t, s+"k0", len(s), api.ErrTwice)
}

// Whole values are counted apart, and levels are those within one whole value.
func TestWholeValuesAreCountedApart(t *testing.T) {
	full := "[" + strings.Repeat("1 ", api.MaxNodes-1) + "]"
	checkDocument(t, "query ( $ v : A = "+full+" $ w : A = "+full+" ) { a ( x : "+full+" y : "+full+" ) @ d ( x : "+full+" ) }")
	checkDocument(t, "{ a ( x : "+full+" ) @ d ( x : "+full+" y : "+full+" ) @ d ( x : "+full+" ) } mutation ( $ v : A = "+full+" ) { b }")
	deep := strings.Repeat("[", 23) + strings.Repeat("]", 23)
	checkDocument(t, "{ a ( x : ["+deep+deep+" 1 {a:"+deep[1:45]+" b:"+deep[1:45]+"}] y : "+deep+" ) }")
	start := "{ a ( x : [" + deep + "["
	checkError(t, start+deep, len(start)+22, api.ErrDepth)
}

// Of two limits that one token exceeds, that of the levels comes first.
func TestBothLimitsOfValues(t *testing.T) {
	const start = "{ a ( x : ["
	for before := 4060; before < 4080; before++ {
		s := start + strings.Repeat("1 ", before) + strings.Repeat("[", 23)
		if nodes := 1 + before + 23; nodes > api.MaxNodes {
			checkError(t, s+"$", len(s)-(nodes-api.MaxNodes), api.ErrSize)
		} else {
			checkError(t, s+"$", len(s), api.ErrDepth)
		}
	}
}
