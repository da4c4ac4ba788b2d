package query_test

import (
	"fmt"
	"math/rand"
	"reflect"
	"slices"
	"strconv"
	"strings"
	"testing"

	"supergraph/api"
	"supergraph/query"
	"supergraph/sdlprint"
	"supergraph/text"
	"supergraph/token"
	"supergraph/typeref"
)

// parts returns all parts of a document or a value as text; empty lists are like nil.
func parts[T api.Query | api.Value](x T) string {
	return strings.ReplaceAll(fmt.Sprintf("%#v", x), "(nil)", "{}")
}

// same tries the faster comparison first, which distinguishes empty lists from nil.
func same(a, b api.Query) bool { return reflect.DeepEqual(a, b) || parts(a) == parts(b) }

// brief shortens what an error reports.
func brief(s string) string {
	if len(s) <= 400 {
		return s
	}
	return s[:200] + " .. " + s[len(s)-200:]
}

func checkRead(t *testing.T, s string, want api.Query) {
	t.Helper()
	if got, at, code := query.Parse(s); !same(got, want) || at != 0 || code != api.OK {
		t.Errorf("Parse(%q) is %v, %d, %d", brief(s), brief(parts(got)), at, code)
	}
	if !query.Right(want) {
		t.Errorf("the document of %q is not right", brief(s))
	}
}

func checkError(t *testing.T, s string, at int, code api.Errno) {
	t.Helper()
	if q, i, e := query.Parse(s); !same(q, api.Query{}) || i != at || e != code {
		t.Errorf("Parse(%q) is %v, %d, %d, not %d, %d", brief(s), brief(parts(q)), i, e, at, code)
	}
}

// checkDocument expects that s is read as a right document that is written with the tokens of s.
func checkDocument(t *testing.T, s string) {
	t.Helper()
	q, at, code := query.Parse(s)
	if !query.Right(q) || at != 0 || code != api.OK {
		t.Errorf("Parse(%q) is %v, %d, %d", brief(s), brief(parts(q)), at, code)
	}
	if got, want := definitions(write(q)), definitions(s); !slices.Equal(got, want) {
		t.Errorf("Parse(%q) is that of %q", brief(s), brief(strings.Join(got, " ")))
	}
}

// definitionsOf returns the tokens of each definition of a document.
func definitionsOf(s string) [][]token.Token {
	tokens, _, _ := token.Scan(s)
	var l [][]token.Token
	begin, open := 0, 0
	for i, x := range tokens {
		if x.Kind != token.Sign {
			continue
		}
		switch x.Text {
		case "{", "(":
			open++
		case "}", ")":
			open--
			if open == 0 && x.Text == "}" {
				l = append(l, tokens[begin:i+1])
				begin = i + 1
			}
		}
	}
	return l
}

// definitions returns the definitions of s as texts of tokens, those of the operations first. The
// keyword of a query without a name and variables, which plays no part, is left out.
func definitions(s string) []string {
	var operations, fragments []string
	for _, tokens := range definitionsOf(s) {
		switch text := token.Print(tokens); {
		case strings.HasPrefix(text, "fragment "):
			fragments = append(fragments, text)
		case strings.HasPrefix(text, "query {"):
			operations = append(operations, strings.TrimPrefix(text, "query "))
		default:
			operations = append(operations, text)
		}
	}
	return append(operations, fragments...)
}

// write returns the text of a right document.
func write(q api.Query) string {
	s := ""
	words := map[int]string{api.OQuery: "query ", api.OMutation: "mutation ", api.OSubscription: "subscription "}
	for _, o := range q.Ops {
		s += words[o.Kind] + o.Name + enclose("(", o.Vars, writeVariable, ")") + enclose("{", o.Sels, writeSelection, "}")
	}
	for _, f := range q.Frags {
		s += "fragment " + f.Name + " on " + f.On + enclose("{", f.Sels, writeSelection, "}")
	}
	return s
}

func enclose[T any](opening string, l []T, one func(x T) string, closing string) string {
	var written []string
	for _, x := range l {
		written = append(written, one(x))
	}
	if written == nil {
		return ""
	}
	return opening + strings.Join(written, " ") + closing
}

func writeVariable(v api.Var) string {
	s := "$" + v.Name + ":" + typeref.Print(v.Type)
	if v.Has {
		s += "=" + sdlprint.Value(v.Default)
	}
	return s
}

func writeSelection(s api.Sel) string {
	start := s.Name
	switch {
	case s.Kind == api.SSpread:
		start = "..." + s.Name
	case s.Kind == api.SInline && s.On == "":
		start = "..."
	case s.Kind == api.SInline:
		start = "... on " + s.On
	case s.Alias != "":
		start = s.Alias + ":" + s.Name
	}
	args := enclose("(", s.Args, func(a api.Arg) string { return a.Name + ":" + sdlprint.Value(a.Value) }, ")")
	return start + args + " " + sdlprint.Directives(s.Dirs) + enclose("{", s.Sels, writeSelection, "}")
}

// A source makes the texts of random right documents, with single spaces between the tokens. Their
// lists are short, apart from some with the number of elements of the limit.
type source struct {
	*rand.Rand
	rare int // one of so many lists is long
}

func (r source) count(least, most int) int {
	if r.Intn(r.rare) == 0 {
		return most
	}
	return least + r.Intn(3)
}

// some returns least to most elements, with what encloses them if there are any.
func (r source) some(opening string, least, most int, one func() string, closing string) string {
	return enclose(opening+" ", make([]bool, r.count(least, most)), func(bool) string { return one() }, " "+closing+" ")
}

func (r source) choose(l ...string) string { return l[r.Intn(len(l))] }

func (r source) name() string {
	if r.Intn(3) == 0 {
		return "n" + strconv.Itoa(r.Intn(1000))
	}
	return r.choose("a", "b", "A", "_", "__typename", "x1", "query", "mutation", "subscription", "fragment", "type", "true", "false", "null", "Int", "on", strings.Repeat("n", 64))
}

func (r source) fragmentName() string {
	if s := r.name(); s != "on" {
		return s
	}
	return "On"
}

func (r source) document() string {
	return strings.Join(strings.Fields(r.some("", 1, api.MaxDefs, r.definition, "")), " ")
}

func (r source) definition() string {
	set := r.selections(r.count(1, api.MaxDepth))
	switch r.Intn(6) {
	case 0:
		return set
	case 1, 2:
		return "fragment " + r.fragmentName() + " on " + r.name() + " " + set
	}
	s := r.choose("query ", "mutation ", "subscription ")
	if r.Intn(2) == 0 {
		s += r.name() + " "
	}
	if r.Intn(2) == 0 {
		s += r.some("(", 1, api.MaxArgs, r.variable, ")")
	}
	return s + set
}

func (r source) variable() string {
	s := "$ " + r.name() + " : " + r.reference()
	if r.Intn(2) == 0 {
		s += " = " + r.value(r.count(1, api.MaxDepth), false)
	}
	return s
}

func (r source) reference() string {
	s := r.name()
	for n := r.count(0, api.MaxDepth); n > 0; n-- {
		if r.Intn(2) == 0 && !strings.HasSuffix(s, "!") {
			s += " !"
		} else {
			s = "[ " + s + " ]"
		}
	}
	return s
}

// selections returns a selection set with this many levels: its first selection has all those below, the others have few.
func (r source) selections(levels int) string {
	below := levels - 1
	return r.some("{", 1, api.MaxFields, func() string {
		s := r.selection(below)
		below = min(levels-1, r.Intn(8)-5)
		return s
	}, "}")
}

func (r source) selection(below int) string {
	set := ""
	if below > 0 {
		set = r.selections(below)
	}
	switch {
	case set == "" && r.Intn(3) == 0:
		return "... " + r.fragmentName() + r.directives()
	case set != "" && r.Intn(3) == 0:
		return r.choose("...", "... on "+r.name()) + r.directives() + " " + set
	}
	return r.choose("", r.name()+" : ") + r.name() + r.arguments() + r.directives() + " " + set
}

func (r source) directives() string {
	if r.Intn(3) > 0 {
		return ""
	}
	return r.some("", 0, api.MaxArgs, func() string { return "@ " + r.name() + r.arguments() }, "")
}

func (r source) arguments() string {
	if r.Intn(3) > 0 {
		return ""
	}
	return r.some(" (", 0, api.MaxArgs, func() string {
		return r.name() + " : " + r.value(r.count(0, 3), true)
	}, ")")
}

// value returns a value with at most this many levels.
func (r source) value(levels int, variables bool) string {
	if levels <= 1 {
		return r.leaf(variables)
	}
	below, keys := levels-1, 0
	element := func() string {
		s := r.value(below, variables)
		below = min(levels-1, r.Intn(8)-4)
		return s
	}
	if r.Intn(2) == 0 {
		return "[ " + r.some("", 0, 4, element, "") + " ]"
	}
	return "{ " + r.some("", 0, 4, func() string {
		keys++
		return r.choose("k", "on", "null") + strconv.Itoa(keys) + " : " + element()
	}, "") + " }"
}

func (r source) leaf(variables bool) string {
	switch {
	case variables && r.Intn(3) == 0:
		return "$ " + r.name()
	case r.Intn(5) == 0:
		b := make([]byte, r.Intn(6))
		r.Read(b)
		return strings.ReplaceAll(text.Quote(string(b)), " ", "_")
	}
	return r.choose("null", "true", "false", "0", "-1", "9223372036854775807", "-9223372036854775808", "RED", "on", "query", "{ }", "[ ]", `"{"`, `"]"`, `"on"`, `"..."`, `"$"`, `"#"`)
}

// eachText calls visit for the texts of many random right documents that are not too long.
func eachText(visit func(r source, s string)) {
	random := rand.New(rand.NewSource(8))
	for i := range 2000 {
		r := source{Rand: random, rare: 8 + i%60}
		if s := r.document(); len(s) <= api.MaxText {
			visit(r, s)
		}
	}
}

// P8.1, P8.2

func TestRandomDocuments(t *testing.T) {
	count, long := 0, 0
	eachText(func(_ source, s string) {
		count++
		if len(s) > 2000 {
			long++
		}
		if !t.Failed() {
			checkDocument(t, s)
		}
	})
	if count < 1800 || long < 200 {
		t.Error("too few documents:", count, long)
	}
}

// P8.3

// checkSame expects that s is read as want, and so are its tokens.
func checkSame(t *testing.T, s string, want api.Query) {
	t.Helper()
	checkRead(t, s, want)
	tokens, _, _ := token.Scan(s)
	if printed := token.Print(tokens); len(printed) <= api.MaxText {
		checkRead(t, printed, want)
	} else {
		checkError(t, printed, api.MaxText, api.ErrSize)
	}
}

func TestOtherSeparators(t *testing.T) {
	separators := []string{" ", "\t", "\n", "\r", ",", "#\n", "#\r", "# { a } \"\n", "#é\xff\r", " ,, \t", "\n\n#a\n"}
	eachText(func(r source, s string) {
		if t.Failed() || len(s) > api.MaxText/16 {
			return
		}
		want, _, _ := query.Parse(s)
		one := separators[r.Intn(len(separators))]
		checkSame(t, one+strings.ReplaceAll(s, " ", one)+one, want)
		varied := ""
		for _, x := range strings.Fields(s) {
			varied += separators[r.Intn(len(separators))] + x
		}
		checkSame(t, varied, want)
		checkSame(t, varied+"#}", want)
		checkSame(t, shortest(s), want)
	})
}

// shortest leaves out the spaces that the tokens of s do not need: those beside signs and string literals.
func shortest(s string) string {
	isWord := func(c byte) bool { return c == '_' || c == '-' || text.Name("a"+string(c)) }
	var written strings.Builder
	for i := range len(s) {
		if s[i] != ' ' || isWord(s[i-1]) && isWord(s[i+1]) {
			written.WriteByte(s[i])
		}
	}
	return written.String()
}

// The text of the tokens can be too long.
func TestSeparatorsAtTheLimit(t *testing.T) {
	for before := range 40 {
		s := "{" + strings.Repeat("a", before+1) + "}"
		for len(s)+64*9 < api.MaxText/2 {
			s += "{" + strings.Repeat("aaaaaaaa ", 64) + "}"
		}
		s += strings.Repeat(" ", api.MaxText-len(s))
		want, _, code := query.Parse(s)
		if code != api.OK {
			t.Fatal(code)
		}
		checkSame(t, s, want)
	}
	// These names have so many bytes that the text with all spaces reaches the limit and exceeds it by one.
	names := strings.Repeat(" "+strings.Repeat("n", 64), 15)
	set := "{" + strings.Repeat("a("+strings.ReplaceAll(names, " ", " x:")+")", 60) + "}"
	for _, more := range []int{0, 1} {
		tokens, _, _ := token.Scan(set)
		rest := api.MaxText - len(token.Print(tokens)) - len(" { }") + more
		s := set + "{"
		for rest > 0 {
			n := min(rest-1, 64)
			if rest-1-n == 1 {
				n--
			}
			s += " " + strings.Repeat("b", n)
			rest -= n + 1
		}
		s += "}"
		tokens, _, _ = token.Scan(s)
		if n := len(token.Print(tokens)); n != api.MaxText+more || len(s) > api.MaxText {
			t.Error(n, len(s))
		}
		want, _, code := query.Parse(s)
		if code != api.OK {
			t.Fatal(code)
		}
		checkSame(t, s, want)
	}
}

// P8.4

func TestConcatenation(t *testing.T) {
	var last api.Query
	lastText := ""
	joined, full, long := 0, 0, 0
	eachText(func(r source, s string) {
		if t.Failed() {
			return
		}
		s += r.choose("", " ", ",", "#", "# }", "\n", "# \"")
		q, _, _ := query.Parse(s)
		both := lastText + "\n" + s
		want := api.Query{Ops: append(slices.Clone(last.Ops), q.Ops...), Frags: append(slices.Clone(last.Frags), q.Frags...)}
		switch before := len(last.Ops) + len(last.Frags); {
		case before == 0:
		case len(both) > api.MaxText:
			long++
			checkError(t, both, api.MaxText, api.ErrSize)
		case len(want.Ops)+len(want.Frags) > api.MaxDefs:
			full++
			checkError(t, both, len(lastText)+1+definitionsOf(s)[api.MaxDefs-before][0].At, api.ErrSize)
		default:
			joined++
			checkRead(t, both, want)
		}
		last, lastText = q, s
	})
	if joined < 500 || full < 20 || long < 5 {
		t.Error("too few documents:", joined, full, long)
	}
}

// At the limits of definitions and of bytes.
func TestConcatenationAtTheLimits(t *testing.T) {
	for count := 1; count < 64; count++ {
		first := strings.Repeat("{a}", count)
		second := strings.Repeat("fragment f on T{a}", 64-count)
		want := api.Query{Ops: slices.Repeat([]api.Op{operation(field("a"))}, count), Frags: slices.Repeat([]api.Frag{{Name: "f", On: "T", Sels: []api.Sel{field("a")}}}, 64-count)}
		checkRead(t, first+"\n"+second, want)
		checkRead(t, second+"\n"+first, want)
		checkError(t, first+"\n"+second+"{a}", len(first)+1+len(second), api.ErrSize)
		checkError(t, second+"{a}\n"+first, len(first)+1+len(second), api.ErrSize)
		spaces := strings.Repeat(" ", api.MaxText-len(first)-1-len(second))
		checkRead(t, first+spaces+"\n"+second, want)
		checkError(t, first+spaces+" \n"+second, api.MaxText, api.ErrSize)
	}
}
