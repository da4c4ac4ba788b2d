package query_test

import (
	"math"
	"slices"
	"strconv"
	"strings"
	"testing"

	"supergraph/api"
	"supergraph/query"
	"supergraph/text"
	"supergraph/typeref"
	"supergraph/value"
)

func variable(name string) api.Value { return api.Value{Kind: api.VVar, Text: name} }

func object(keys string, items ...api.Value) api.Value {
	return api.Value{Kind: api.VObject, Keys: strings.Fields(keys), Items: items}
}

func field(name string, sels ...api.Sel) api.Sel {
	return api.Sel{Kind: api.SField, Name: name, Sels: sels}
}

func inline(on string, sels ...api.Sel) api.Sel {
	return api.Sel{Kind: api.SInline, On: on, Sels: sels}
}

func spread(name string) api.Sel { return api.Sel{Kind: api.SSpread, Name: name} }

func operation(sels ...api.Sel) api.Op { return api.Op{Kind: api.OQuery, Sels: sels} }

// plain returns the document of one query without a name.
func plain(sels ...api.Sel) api.Query { return api.Query{Ops: []api.Op{operation(sels...)}} }

// P8.1: documents.

func TestExamples(t *testing.T) {
	user := field("user", field("name"), spread("f"))
	user.Alias = "a"
	user.Args = []api.Arg{{Name: "id", Value: variable("n")}}
	q := operation(user)
	q.Name = "q"
	q.Vars = []api.Var{{Name: "n", Type: typeref.Named("Int"), Has: true, Default: value.Int(1)}}
	want := api.Query{Ops: []api.Op{q}, Frags: []api.Frag{{Name: "f", On: "User", Sels: []api.Sel{field("id")}}}}
	checkRead(t, "query q($n: Int = 1) { a: user(id: $n) { name ...f } } fragment f on User { id }", want)
	checkError(t, "{ }", 2, api.ErrForm)
}

func TestEveryPart(t *testing.T) {
	one := api.Dir{Name: "d"}
	two := api.Dir{Name: "e", Args: []api.Arg{{Name: "x", Value: value.List([]api.Value{variable("v"), value.Enum("RED")})}, {Name: "y"}}}
	a := field("b", field("c", field("d")), spread("f"), inline("T", field("a")), inline("", inline("U", spread("g"))), field("e"))
	a.Alias = "a"
	a.Args = []api.Arg{{Name: "m", Value: object("k l", value.Int(-1), variable("v"))}, {Name: "n", Value: value.Text("}")}}
	a.Dirs = []api.Dir{one, two}
	a.Sels[1].Dirs = []api.Dir{two, one}
	a.Sels[2].Dirs = []api.Dir{two}
	a.Sels[3].Dirs = []api.Dir{one, one}
	a.Sels[4].Alias = "f"
	first := api.Op{Kind: api.OSubscription, Name: "s", Vars: []api.Var{
		{Name: "v", Type: typeref.Named("A")},
		{Name: "w", Type: typeref.NonNull(typeref.ListOf(typeref.NonNull(typeref.Named("B")))), Has: true, Default: value.List([]api.Value{value.Enum("B")})},
		{Name: "v", Type: typeref.ListOf(typeref.ListOf(typeref.Named("C"))), Has: true},
	}, Sels: []api.Sel{a, field("a")}}
	second := api.Op{Kind: api.OMutation, Vars: []api.Var{{Name: "a", Type: typeref.Named("A"), Has: true, Default: object("")}}, Sels: []api.Sel{field("a")}}
	checkRead(t, `fragment f on T { ...f } subscription s($v: A, $w: [B!]! = [B], $v: [[C]] = null) {
		a: b(m: {k: -1 l: $v} n: "}") @d @e(x: [$v RED] y: null) {
			c { d } ...f @e(x: [$v, RED], y: null) @d ... on T @e(x: [$v RED] y: null) { a } ... @d @d { ...on U { ...g } } f: e
		} a
	} { a } fragment f on T { a } mutation ($a: A = {}) { a }`, api.Query{
		Ops: []api.Op{first, operation(field("a")), second},
		Frags: []api.Frag{
			{Name: "f", On: "T", Sels: []api.Sel{spread("f")}},
			{Name: "f", On: "T", Sels: []api.Sel{field("a")}},
		},
	})
}

func TestKindsOfOperations(t *testing.T) {
	vars := []api.Var{{Name: "v", Type: typeref.Named("A")}}
	sels := []api.Sel{field("a")}
	for kind, word := range map[int]string{api.OQuery: "query", api.OMutation: "mutation", api.OSubscription: "subscription"} {
		for _, name := range []string{"", "n", "query", "mutation", "subscription", "fragment", "on"} {
			checkRead(t, word+" "+name+" { a }", api.Query{Ops: []api.Op{{Kind: kind, Name: name, Sels: sels}}})
			checkRead(t, word+" "+name+" ($v: A) { a }", api.Query{Ops: []api.Op{{Kind: kind, Name: name, Vars: vars, Sels: sels}}})
		}
		checkError(t, word, len(word), api.ErrForm)
		checkError(t, word+" n m { a }", len(word)+3, api.ErrForm)
		checkError(t, word+" n", len(word)+2, api.ErrForm)
		checkError(t, word+" @d { a }", len(word)+1, api.ErrForm)
		checkError(t, word+" () { a }", len(word)+2, api.ErrForm)
	}
	checkError(t, "($v: A) { a }", 0, api.ErrForm)
}

// The names of all things may be any names: keywords, reserved ones, and repeated ones.
func TestAnyNames(t *testing.T) {
	for _, n := range append(strings.Fields(words+" __typename _ Int type false a1"), strings.Repeat("n", 64)) {
		args := []api.Arg{{Name: n, Value: variable(n)}, {Name: n, Value: object(n, variable(n))}}
		dirs := []api.Dir{{Name: n, Args: args}, {Name: n}}
		arg := "(" + n + ":$" + n + " " + n + ":{" + n + ":$" + n + "})"
		dir := "@" + n + arg + "@" + n
		f := api.Sel{Kind: api.SField, Alias: n, Name: n, Args: args, Dirs: dirs}
		f.Sels = []api.Sel{field(n), field(n), {Kind: api.SInline, On: n, Dirs: dirs, Sels: []api.Sel{field(n)}}}
		set := "{" + n + ":" + n + arg + dir + "{" + n + " " + n + " ...on " + n + dir + "{" + n + "}}}"
		v := api.Var{Name: n, Type: typeref.ListOf(typeref.Named(n))}
		checkRead(t, "query "+n+"($"+n+":["+n+"] $"+n+":["+n+"])"+set+"fragment f on "+n+set, api.Query{
			Ops:   []api.Op{{Kind: api.OQuery, Name: n, Vars: []api.Var{v, v}, Sels: []api.Sel{f}}},
			Frags: []api.Frag{{Name: "f", On: n, Sels: []api.Sel{f}}},
		})
		if n != "on" {
			s := spread(n)
			s.Dirs = dirs
			frag := api.Frag{Name: n, On: n, Sels: []api.Sel{s, field(n)}}
			frags := "fragment " + n + " on " + n + "{..." + n + dir + " " + n + "}"
			checkRead(t, frags+frags, api.Query{Frags: []api.Frag{frag, frag}})
		}
	}
}

// After three periods, and as the name of a fragment, "on" is a keyword; everywhere else it is a name.
func TestOn(t *testing.T) {
	checkError(t, "{ ...on }", 8, api.ErrForm)
	checkError(t, "{ ...on { a } }", 8, api.ErrForm)
	checkError(t, "{ ...on @d { a } }", 8, api.ErrForm)
	checkError(t, "{ ... on on }", 12, api.ErrForm)
	checkError(t, "{ ... on on on { a } }", 12, api.ErrForm)
	checkError(t, "fragment on on T { a }", 9, api.ErrForm)
	checkError(t, "fragment on", 9, api.ErrForm)
	checkError(t, "fragment f T { a }", 11, api.ErrForm)
	checkError(t, "fragment f \"on\" T { a }", 11, api.ErrForm)
	checkError(t, "fragment f on { a }", 14, api.ErrForm)
	checkError(t, "fragment { a }", 9, api.ErrForm)
	checkRead(t, "{ ...f on }", plain(spread("f"), field("on")))
	checkRead(t, "{ ...f on { a } }", plain(spread("f"), field("on", field("a"))))
	checkRead(t, "{ ...On }", plain(spread("On")))
	checkRead(t, "{ ... on on { on } on }", plain(inline("on", field("on")), field("on")))
	checkRead(t, "{ ... { on } }", plain(inline("", field("on"))))
	checkRead(t, "fragment f on on { a } fragment of on T { a }", api.Query{Frags: []api.Frag{
		{Name: "f", On: "on", Sels: []api.Sel{field("a")}}, {Name: "of", On: "T", Sels: []api.Sel{field("a")}},
	}})
}

// Only fields have aliases, arguments and no need for a selection set.
func TestPartsOfSelections(t *testing.T) {
	for s, at := range map[string]int{
		"{ ...f { a } }": 7, "{ ...f(x: 1) }": 6, "{ ...f: a }": 6, "{ a: ...f }": 5, "{ a: b: c }": 6, "{ ... }": 6, "{ ... @d }": 9, "{ ... @d f }": 9,
		"{ ... on T }": 11, "{ ... on T (x: 1) { a } }": 11, "{ ... (x: 1) { a } }": 6, "{ ...f ...}": 10, "{ ... { } }": 8, "{ a { } }": 6, "{ a() }": 4,
		"{ a @d (x: 1) (y: 1) }": 14, "{ a(x: 1)(y: 1) }": 9, "{ a {b} @d }": 8, "{ a {b} {c} }": 8, "{ a @d: b }": 6, "{ @d }": 2, "{ : a }": 2, "{ \"a\" }": 2, "{ 1 }": 2,
		"{ a } }": 6, "{ a": 3, "{": 1, "{ a(x) }": 5, "{ a(x:) }": 6, "{ a(1: 1) }": 4, "{ a(x: 1 }": 9, "{ a @ }": 6, "{ a(x: 1] }": 8,
	} {
		checkError(t, s, at, api.ErrForm)
	}
}

// valued returns the beginnings of documents up to a whole value, and what completes them; values
// that can contain variables come first.
func valued() [][2]string {
	return [][2]string{
		{"{ a ( x : ", " ) }"},
		{"query q ( $ v : A = [ 1 ] ) { a { b : c ( x : 1 y : ", " z : 2 ) { d } } }"},
		{"{ a @ d ( x : ", " ) { b } }"},
		{"{ ... f @ d ( x : ", " ) }"},
		{"{ ... @ d @ d ( x : ", " ) { a } }"},
		{"fragment f on T { ... on T @ d ( y : { z : 1 } x : ", " ) @ d { a } }"},
		{"query ( $ v : A = ", " ) { a }"},
		{"mutation m ( $ v : A = 1 $ w : [ A ] ! = ", " $ x : A ) { a }"},
	}
}

// constants is the number of the first context in which values cannot contain variables.
const constants = 6

// valuesOf returns the values of arguments and the default values of q, in order.
func valuesOf(q api.Query) []api.Value {
	var l []api.Value
	add := func(args []api.Arg) {
		for _, a := range args {
			l = append(l, a.Value)
		}
	}
	var visit func(sels []api.Sel)
	visit = func(sels []api.Sel) {
		for _, s := range sels {
			add(s.Args)
			for _, d := range s.Dirs {
				add(d.Args)
			}
			visit(s.Sels)
		}
	}
	for _, o := range q.Ops {
		for _, v := range o.Vars {
			l = append(l, v.Default)
		}
		visit(o.Sels)
	}
	for _, f := range q.Frags {
		visit(f.Sels)
	}
	return l
}

// checkValue expects that s is read as v in all places where values are, or in those of variables only.
func checkValue(t *testing.T, s string, v api.Value, variables bool) {
	t.Helper()
	for i, around := range valued() {
		if variables && i >= constants {
			continue
		}
		q, at, code := query.Parse(around[0] + s + around[1])
		found := slices.ContainsFunc(valuesOf(q), func(x api.Value) bool { return parts(x) == parts(v) })
		if !found || !query.Right(q) || at != 0 || code != api.OK {
			t.Errorf("Parse(%q) is %v, %d, %d", brief(around[0]+s+around[1]), brief(parts(q)), at, code)
		}
	}
}

func TestValues(t *testing.T) {
	checkValue(t, "null", api.Value{}, false)
	checkValue(t, "true", value.Bool(true), false)
	checkValue(t, "false", value.Bool(false), false)
	for _, n := range []int{0, 7, -1, 10, 2147483648, math.MaxInt, math.MinInt} {
		checkValue(t, strconv.Itoa(n), value.Int(n), false)
	}
	for _, name := range []string{"A", "True", "nulls", "_", "__x", "on", "query", "fragment", strings.Repeat("n", 64)} {
		checkValue(t, name, value.Enum(name), false)
		checkValue(t, "$"+name, variable(name), true)
	}
	for _, name := range []string{"true", "false", "null"} {
		checkValue(t, "$ "+name, variable(name), true)
	}
	for b := range 256 {
		s := "a" + string([]byte{byte(b)})
		checkValue(t, text.Quote(s), value.Text(s), false)
	}
	checkValue(t, "[]", value.List(nil), false)
	checkValue(t, "{}", object(""), false)
	list := value.List([]api.Value{value.List(nil), object(""), {}, value.Bool(true), value.Enum("A"), value.Text("$"), value.Int(-1)})
	checkValue(t, "[[] {} null true A \"$\" -1]", list, false)
	checkValue(t, "{a:{}, b:[{a:1}], true:true, on:{A:{A:A}}}", object("a b true on", object(""), value.List([]api.Value{object("a", value.Int(1))}), value.Bool(true), object("A", object("A", value.Enum("A")))), false)
	checkValue(t, "[$a [$b $a] {c:$a d:{d:$d}}]", value.List([]api.Value{
		variable("a"), value.List([]api.Value{variable("b"), variable("a")}), object("c d", variable("a"), object("d", variable("d"))),
	}), true)
}

// Within default values there are no variables, at any level.
func TestVariablesInDefaultValues(t *testing.T) {
	for i, around := range valued() {
		for _, s := range []string{"", "[ ", "{ a : ", "[ 1 { a : 1 b : "} {
			start := around[0] + s
			if i >= constants {
				checkError(t, start+"$ v", len(start), api.ErrForm)
				continue
			}
			checkError(t, start+"$ ", len(start)+2, api.ErrForm)
			for _, wrong := range []string{"1", `"v"`, "$", "{", ")", ":"} {
				checkError(t, start+"$ "+wrong, len(start)+2, api.ErrForm)
			}
		}
	}
	checkError(t, "query ($a: Int = $b) { a }", 17, api.ErrForm)
	// That an argument can contain variables is not remembered for the default values behind it, nor the other way round.
	checkError(t, "{ a(x: [$v]) } query ($v: A = $v) { a }", 30, api.ErrForm)
	checkValue(t, "$v", variable("v"), true)
}

// A default value that is null is not the same as none.
func TestNullAsADefault(t *testing.T) {
	for _, has := range []bool{true, false} {
		s := map[bool]string{true: "= null"}[has]
		q := operation(field("a"))
		q.Vars = []api.Var{{Name: "v", Type: typeref.Named("A"), Has: has}}
		checkRead(t, "query ($v: A "+s+") { a }", api.Query{Ops: []api.Op{q}})
	}
}

// A string literal is neither a sign nor a word, whatever it contains.
func TestLiteralsAreNoSigns(t *testing.T) {
	tokens := tokensOf(whole)
	for i, x := range tokens {
		if x[0] != '"' {
			check(t, join(tokens[:i], []string{strconv.Quote(x)}, tokens[i+1:]))
		}
	}
	checkValue(t, `["]" "[" "}" "{" "..." "@" ")" "$" "true" "on" "="]`, value.List([]api.Value{
		value.Text("]"), value.Text("["), value.Text("}"), value.Text("{"), value.Text("..."), value.Text("@"), value.Text(")"),
		value.Text("$"), value.Text("true"), value.Text("on"), value.Text("="),
	}), false)
}

// P8.1: errors.

func TestErrorsOfTokensComeFirst(t *testing.T) {
	const large = "9223372036854775808"
	checkError(t, "{ a % }", 4, api.ErrForm)
	checkError(t, "{ a ..f }", 4, api.ErrForm)
	checkError(t, "} { a } 01", 8, api.ErrForm)
	checkError(t, "{ a(x: "+large+") }", 7, api.ErrSize)
	checkError(t, "{ a(x: {k: 1 k: 2} y: -"+large+"0) }", 22, api.ErrSize)
	checkError(t, "} "+large+" \"", 2, api.ErrSize)
	checkError(t, "} \" "+large, 2, api.ErrForm)
	checkError(t, "{ "+strings.Repeat("n", 65)+" }", 2, api.ErrForm)
	checkError(t, strings.Repeat("}", api.MaxText), 0, api.ErrForm)
	checkError(t, strings.Repeat("}", api.MaxText+1), api.MaxText, api.ErrSize)
	checkError(t, strings.Repeat("{", api.MaxText), 1, api.ErrForm)
	checkRead(t, "{a}"+strings.Repeat(" ", api.MaxText-3), plain(field("a")))
	checkError(t, "{a}"+strings.Repeat(" ", api.MaxText-2), api.MaxText, api.ErrSize)
}

func TestNoDefinitions(t *testing.T) {
	for _, s := range []string{"", " ", "# { a }", ",\n\t\r", "#\n#"} {
		checkError(t, s, len(s), api.ErrForm)
	}
	for _, s := range []string{
		"a { a }", "Query { a }", "queries { a }", "type A { x: B }", "on T { a }", "...f", "... on T { a }", "@d { a }", "( $v: A ) { a }", "}", "\"query\" { a }", "\"{\" a }", "1", "$a",
	} {
		checkError(t, s, 0, api.ErrForm)
		checkError(t, "{ a } "+s, 6, api.ErrForm)
		checkError(t, "fragment f on T { a } "+s, 22, api.ErrForm)
	}
	checkError(t, "{ a } x", 6, api.ErrForm)
}

// A repeated key is found at its token, whatever follows it; objects have keys of their own.
func TestRepeatedKeys(t *testing.T) {
	for _, around := range valued() {
		for _, x := range []struct{ before, after string }{
			{"{ a : 1 ", "a : 1 }"},
			{"{ a : 1 b : 2 c : 3 ", "b : 1 }"},
			{"{ a : 1 b : 2 c : 3 ", "c : 1 }"},
			{"{ a : { a : 1 } ", "a : 1 }"},
			{"[ { a : 1 } { a : 1 ", "a : 1 } ]"},
			{"{ b : { a : 1 ", "a : 1 } b : 2 }"},
			{"{ true : 1 ", "true : 1 }"},
			{"{ a : [ { a : 1 } ] ", "a : 1 }"},
		} {
			at := len(around[0] + x.before)
			checkError(t, around[0]+x.before+x.after+around[1], at, api.ErrTwice)
			for _, rest := range []string{"", " }", " a", " 1", " ="} {
				checkError(t, around[0]+x.before+strings.Fields(x.after)[0]+rest, at, api.ErrTwice)
			}
		}
		s := around[0] + "[ { a : { a : { a : 1 } b : { a : 1 } } } { a : [ { a : 2 } { a : 1 A : 1 } ] } ]" + around[1]
		checkDocument(t, s)
		start := around[0] + "{ a : "
		checkError(t, start+") a : 1 }", len(start), api.ErrForm)
		checkError(t, start+"1 \"a\" : 1 }", len(start)+2, api.ErrForm)
	}
	checkError(t, "{ a(x: {k: 1, k: 2}) }", 14, api.ErrTwice)
	checkDocument(t, "{ a(x: {k: 1} y: {k: 1}) @d(k: {k: 1}) a(x: {k: 1}) }")
}

// Every call returns new memory.
func TestResultsShareNothing(t *testing.T) {
	first, _, _ := query.Parse(whole)
	second, _, _ := query.Parse(whole)
	before := parts(second)
	var wipe func(sels []api.Sel)
	wipe = func(sels []api.Sel) {
		for _, s := range sels {
			wipe(s.Sels)
			clear(s.Args)
			clear(s.Dirs)
		}
		clear(sels)
	}
	for _, o := range first.Ops {
		for _, v := range o.Vars {
			clear(v.Type.Wraps)
		}
		clear(o.Vars)
		wipe(o.Sels)
	}
	for _, f := range first.Frags {
		wipe(f.Sels)
	}
	clear(first.Ops)
	clear(first.Frags)
	if after := parts(second); after != before {
		t.Error(after)
	}
}
