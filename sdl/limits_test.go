package sdl_test

import (
	"slices"
	"strconv"
	"strings"
	"testing"

	"supergraph/api"
	"supergraph/sdl"
)

// P6.1: the limits of lists.

// A list in a document: what is before its elements, each of its elements (the first one can
// differ), what is between them, and what is after them.
type list struct {
	before, element, between, after string
	most                            int
	begins                          string // the pieces that can begin one more element
}

const (
	words    = "a type interface union enum input implements true null"
	keywords = "type interface union enum input"
)

func lists() []list {
	return []list{
		{"", "enum E { A }", " ", "", 64, keywords},
		{"type A implements ", "I", " & ", " { x : B }", 64, words},
		{"type A { ", "x : B", " ", " }", 64, words},
		{"type A { ", "x ( a : B = 1 ) : [ B ] ! @ d", " ", " }", 64, words},
		{"interface A { ", "x : B", " ", " }", 64, words},
		{"union U = ", "A", " | ", "", 64, words},
		{"union U = ", "A", " | ", " type B { x : A }", 64, words},
		{"enum E { ", "A", " ", " }", 64, words},
		{"enum E { ", "A @ d @ e", " ", " }", 64, words},
		{"input N { ", "a : B", " ", " }", 16, words},
		{"input N { ", "a : B ! = { } @ d", " ", " }", 16, words},
		{"type A { x ( ", "a : B", " ", " ) : B }", 16, words},
		{"interface A { x ( ", "a : B ! = [ ] @ d", " ", " ) : B }", 16, words},
		{"type A @ ", "d", " @ ", " { x : B }", 16, words},
		{"type A implements I @ ", "d ( a : 1 )", " @ ", " { x : B }", 16, words},
		{"interface A @ ", "d", " @ ", " { x : B }", 16, words},
		{"union U @ ", "d", " @ ", " = A", 16, words},
		{"enum E @ ", "d", " @ ", " { A }", 16, words},
		{"enum E { A @ ", "d", " @ ", " B }", 16, words},
		{"enum E { A @ ", "d", " @ ", " }", 16, words},
		{"input N @ ", "d", " @ ", " { a : B }", 16, words},
		{"input N { a : B @ ", "d", " @ ", " c : D }", 16, words},
		{"input N { a : B = 1 @ ", "d", " @ ", " }", 16, words},
		{"type A { x : B @ ", "d", " @ ", " }", 16, words},
		{"type A { x : B ! @ ", "d", " @ ", " y : B }", 16, words},
		{"type A { x ( a : B @ ", "d", " @ ", " ) : B }", 16, words},
		{"type A { x ( a : B = 1 @ ", "d", " @ ", " b : C ) : B }", 16, words},
		{"type A @ d ( ", "a : 1", " ", " ) { x : B }", 16, words},
		{"type A { x : B @ d ( ", "a : { b : [ ] }", " ", " ) }", 16, words},
		{"enum E { A @ d ( ", "a : C", " ", " ) }", 16, words},
		{"input N { a : B @ d ( ", "a : \"\"", " ", " ) @ e }", 16, words},
		{"type A { x ( a : B @ d ( ", "a : null", " ", " ) ) : B }", 16, words},
	}
}

// text returns a document with so many elements, without what is after them.
func (l list) text(count int) string {
	return l.before + strings.Repeat(l.element+l.between, count-1) + l.element
}

func checkRight(t *testing.T, s string) {
	t.Helper()
	if d, at, code := sdl.Parse(s); !sdl.Right(d) || at != 0 || code != api.OK {
		t.Errorf("Parse(%q) is %d, %d", brief(s), at, code)
	}
}

func TestListsUpToTheLimit(t *testing.T) {
	for _, l := range lists() {
		for count := 1; count <= l.most; count++ {
			checkRight(t, l.text(count)+l.after)
		}
		for _, count := range []int{l.most + 1, l.most + 2, 3 * l.most} {
			at := len(l.text(l.most) + l.between)
			if l.between == " @ " {
				at -= 2
			}
			checkError(t, l.text(count)+l.after, at, api.ErrSize)
			checkError(t, l.text(count), at, api.ErrSize)
		}
	}
}

// One element more is found at its first token, whatever follows that, and only if this token can begin an element.
func TestWhatBeginsOneMore(t *testing.T) {
	o := newOracle()
	for _, l := range lists() {
		full := l.text(l.most)
		if l.between == " @ " {
			for _, rest := range []string{"", " d", " 1", " @ @", " }", l.after} {
				checkError(t, full+" @"+rest, len(full)+1, api.ErrSize)
			}
			continue
		}
		full += l.between
		for _, piece := range pieces() {
			s := strings.TrimSpace(full) + " " + piece
			at := len(s) - len(piece)
			switch {
			case slices.Contains(strings.Fields(l.begins), piece):
				for _, rest := range []string{"", " x", " :", " 1", " }", " )", " }"} {
					checkError(t, s+rest, at, api.ErrSize)
				}
			case !o.canGoOn(s):
				checkError(t, s, at, api.ErrForm)
			}
		}
	}
}

// Lists are counted apart.
func TestListsAreCountedApart(t *testing.T) {
	fields := strings.Repeat("x : A ", 64)
	args := strings.Repeat("a : A ", 16)
	dirs := strings.Repeat("@ d ( "+strings.Repeat("a : 1 ", 16)+") ", 16)
	checkRight(t, strings.Repeat("type A { "+fields+"} ", 64))
	checkRight(t, "type A { "+strings.Repeat("x ( "+args+") : A ", 64)+"} input N { "+args+"} input N { "+args+"}")
	checkRight(t, "type A "+dirs+"{ x ( a : B "+dirs+" b : B "+dirs+" ) : A "+dirs+" y : A "+dirs+" } enum E "+dirs+"{ A "+dirs+" B "+dirs+"} input N { a : B "+dirs+" b : B "+dirs+"}")
	names := "A" + strings.Repeat(" & A", 63)
	checkRight(t, "type A implements "+names+" { "+fields+"} type A implements "+names+" { "+fields+"}")
	union := "union U = A" + strings.Repeat(" | A", 63)
	checkRight(t, union+" "+union)
}

// P6.1: the limits of types.

func typed(s string) []string {
	return []string{"type A { x : " + s, "type A { x ( a : " + s, "input N { a : " + s, "interface A { y : B x : " + s}
}

func TestTypeDepth(t *testing.T) {
	check := func(wraps int, x string) {
		t.Helper()
		for _, s := range typed(x) {
			if wraps <= api.MaxDepth {
				after := map[bool]string{true: " ) : C }", false: " }"}[strings.Contains(s, "(")]
				checkRight(t, s+after)
				continue
			}
			for _, rest := range []string{"", " 1", " ]", " @ d", " }", " b : C }"} {
				checkError(t, s+rest, len(s)-len(x), api.ErrDepth)
			}
		}
	}
	for n := range 60 {
		opening, closing := strings.Repeat("[ ", n), strings.Repeat(" ]", n)
		check(n, opening+"B"+closing)
		check(n+1, opening+"B !"+closing)
		check(2*n, opening+"B"+strings.Repeat(" ! ]", n))
		check(2*n+1, opening+"B"+strings.Repeat(" ! ]", n)+" !")
		check(2*n, opening+"B"+strings.Repeat(" ] !", n))
	}
}

// A type that is too deep is found at its last token: its exclamation mark belongs to it, and what is malformed before comes first.
func TestTypeDepthIsFoundAtTheEnd(t *testing.T) {
	opening, closing := strings.Repeat("[ ", 25), strings.Repeat(" ]", 25)
	for _, s := range typed("") {
		checkError(t, s+opening+"B"+closing+" !", len(s), api.ErrDepth)
		checkError(t, s+opening+"B"+closing+" ! !", len(s), api.ErrDepth)
		checkError(t, s+opening+"B"+closing+" ]", len(s), api.ErrDepth)
		for _, wrong := range []string{"1", "!", "]", "{", "}", ":", "@", "\"B\""} {
			checkError(t, s+opening+wrong, len(s+opening), api.ErrForm)
		}
		for _, wrong := range []string{"1", "[", "{", "}", ":", "@", "B", "\"]\""} {
			start := s + opening + "B" + closing[2:] + " "
			checkError(t, start+wrong, len(start), api.ErrForm)
		}
		checkError(t, s+opening+"B ! !"+closing, len(s+opening)+4, api.ErrForm)
		checkError(t, s+opening+"B"+closing[2:], len(s+opening)+1+len(closing)-2, api.ErrForm)
		checkError(t, s+opening, len(s+opening), api.ErrForm)
	}
	long := strings.Repeat("[", 32000)
	checkError(t, "type A{x:"+long+"B"+strings.Repeat("]", 32000), 9, api.ErrDepth)
	checkError(t, "type A{x:"+long+"B!"+strings.Repeat("]", 31999), 9+32000+2+31999, api.ErrForm)
	checkError(t, "type A{x:"+long+long, 9+64000, api.ErrForm)
}

// P6.1: the limits of values.

// beginnings are the pieces that can begin a value.
const beginnings = words + ` 1 "a" "{" "type" [ {`

// valued returns the beginnings of documents up to a whole value, and what completes them.
func valued() [][2]string {
	return [][2]string{
		{"input N { a : B = ", " }"},
		{"type A { x ( a : B = ", " ) : C }"},
		{"type A @ d ( a : ", " ) { x : B }"},
		{"enum E { A @ d ( a : ", " ) }"},
		{"input N { a : B = [ 1 2 ] b : B = ", " @ d }"},
		{"type A { x ( a : B @ d ( b : [ [ 1 ] ] a : ", " ) ) : B }"},
	}
}

func TestValueLevels(t *testing.T) {
	for _, around := range valued() {
		for n := range 24 {
			for _, s := range []string{"1", "[ ]", "{ }", "null", "true", "A", "\"\""} {
				checkRight(t, around[0]+strings.Repeat("[ ", n)+s+strings.Repeat(" ]", n)+around[1])
				checkRight(t, around[0]+strings.Repeat("{ a : ", n)+s+strings.Repeat(" }", n)+around[1])
				checkRight(t, around[0]+strings.Repeat("[ 1 { a : ", n/2)+s+strings.Repeat(" } 1 ]", n/2)+around[1])
			}
		}
		for _, opening := range []string{strings.Repeat("[ ", 24), strings.Repeat("{ a : ", 24), strings.Repeat("[ { a : ", 12), "[ 1 [ [ ] ] " + strings.Repeat("{ a : ", 23)} {
			s := around[0] + opening
			for _, piece := range pieces() {
				switch {
				case slices.Contains(strings.Fields(beginnings), piece):
					for _, rest := range []string{"", " 1", " :", around[1]} {
						checkError(t, s+piece+rest, len(s), api.ErrDepth)
					}
				case piece != "]" || strings.HasSuffix(opening, ": "):
					checkError(t, s+piece, len(s), api.ErrForm)
				}
			}
			checkError(t, s, len(s), api.ErrForm)
		}
		checkError(t, around[0]+strings.Repeat("[", 10000), len(around[0])+24, api.ErrDepth)
	}
}

func TestValueNodes(t *testing.T) {
	for i, x := range []struct {
		item  string
		nodes int
	}{{"1 ", 1}, {"A ", 1}, {"[]", 1}, {"{}", 1}, {"\"\"", 1}, {"[1]", 2}, {"{a:1}", 2}, {"{a:[1 2]b:A}", 5}} {
		around := valued()[i%len(valued())]
		count := (api.MaxNodes - 1) / x.nodes
		// Single values fill what the repeated item leaves.
		full := around[0] + "[" + strings.Repeat(x.item, count) + strings.Repeat("7 ", api.MaxNodes-1-count*x.nodes)
		checkRight(t, full+"]"+around[1])
		for _, piece := range pieces() {
			switch {
			case slices.Contains(strings.Fields(beginnings), piece):
				checkError(t, full+piece, len(full), api.ErrSize)
				checkError(t, full+piece+"]"+around[1], len(full), api.ErrSize)
			case piece != "]":
				checkError(t, full+piece, len(full), api.ErrForm)
			}
		}
	}
}

// The values of an object are counted, but not its keys.
func TestValueNodesOfObjects(t *testing.T) {
	s := "input N { a : B = {"
	for i := range api.MaxNodes - 1 {
		s += "k" + strconv.Itoa(i) + ":0 "
	}
	checkRight(t, s+"} }")
	checkError(t, s+"k:", len(s)+2, api.ErrForm)
	checkError(t, s+"k:0} }", len(s)+2, api.ErrSize)
	checkError(t, s+"k7:0} }", len(s), api.ErrTwice)
	checkError(t, s+"k0", len(s), api.ErrTwice)
}

// Whole values are counted apart, and levels are those within one whole value.
func TestWholeValuesAreCountedApart(t *testing.T) {
	full := "[" + strings.Repeat("1 ", api.MaxNodes-1) + "]"
	checkRight(t, "input N { a : B = "+full+" b : B = "+full+" @ d ( a : "+full+" b : "+full+" ) @ d ( a : "+full+" ) }")
	deep := strings.Repeat("[", 24) + strings.Repeat("]", 24)
	checkRight(t, "input N { a : B = "+deep+" b : B = "+deep+" @ d ( a : "+deep+" b : "+deep+" ) @ d ( a : "+deep+" ) }")
	deep = deep[1:47]
	checkRight(t, "input N { a : B = ["+deep+deep+" 1 {a:"+deep[1:45]+" b:"+deep[1:45]+"}] }")
	start := "input N { a : B = [" + deep + "["
	checkError(t, start+deep, len(start)+22, api.ErrDepth)
}

// Of two limits that one token exceeds, that of the levels comes first.
func TestBothLimitsOfValues(t *testing.T) {
	start := "input N { a : B = ["
	for before := 4060; before < 4080; before++ {
		s := start + strings.Repeat("1 ", before) + strings.Repeat("[", 23)
		nodes := 1 + before + 23
		if nodes > api.MaxNodes {
			checkError(t, s+"1", len(s)-(nodes-api.MaxNodes), api.ErrSize)
		} else {
			checkError(t, s+"1", len(s), api.ErrDepth)
		}
	}
}
