package query_test

import (
	"math/rand"
	"slices"
	"strings"
	"testing"

	"supergraph/api"
	"supergraph/query"
	"supergraph/typeref"
	"supergraph/value"
)

// P8.2

func checkIs(t *testing.T, want bool, q api.Query) {
	t.Helper()
	if got := query.Right(q); got != want {
		t.Errorf("Right(%v) is %v", brief(parts(q)), got)
	}
}

func fragment(sels ...api.Sel) api.Frag { return api.Frag{Name: "f", On: "T", Sels: sels} }

// eachSet calls visit for many places of selection sets, from the level 1 to 24. The set of a field may be empty.
func eachSet(visit func(level int, mayBeEmpty bool, document func(l []api.Sel) api.Query)) {
	visit(1, false, func(l []api.Sel) api.Query { return plain(l...) })
	visit(1, false, func(l []api.Sel) api.Query { return api.Query{Frags: []api.Frag{fragment(l...)}} })
	visit(1, false, func(l []api.Sel) api.Query {
		return api.Query{Ops: []api.Op{operation(field("a")), operation(l...), operation(field("a"))}, Frags: []api.Frag{fragment(field("a"))}}
	})
	visit(1, false, func(l []api.Sel) api.Query {
		return api.Query{Ops: []api.Op{operation(field("a"))}, Frags: []api.Frag{fragment(field("a")), fragment(l...)}}
	})
	for level := 2; level <= 24; level++ {
		around := func(s api.Sel) api.Query {
			for k := range level - 2 {
				s = []api.Sel{field("b", field("a"), s, spread("f")), inline("", s), inline("U", s, field("a"))}[k%3]
			}
			return plain(field("a"), s)
		}
		visit(level, true, func(l []api.Sel) api.Query { return around(field("c", l...)) })
		visit(level, false, func(l []api.Sel) api.Query { return around(inline("", l...)) })
		visit(level, false, func(l []api.Sel) api.Query {
			return api.Query{Frags: []api.Frag{fragment(around(inline("V", l...)).Ops[0].Sels...)}}
		})
	}
}

// checkSelection expects that s is right or not, wherever it is.
func checkSelection(t *testing.T, want bool, s api.Sel) {
	t.Helper()
	eachSet(func(level int, _ bool, document func(l []api.Sel) api.Query) {
		if level < 4 {
			checkIs(t, want, document([]api.Sel{s}))
			checkIs(t, want, document([]api.Sel{field("a"), s, spread("f")}))
		}
	})
}

func TestRightNumberOfDefinitions(t *testing.T) {
	checkIs(t, false, api.Query{})
	checkIs(t, false, api.Query{Ops: []api.Op{}, Frags: []api.Frag{}})
	for ops := range 67 {
		for _, frags := range []int{0, 1, 2, 31, 32, 33, 63 - ops, 64 - ops, 65 - ops, 63, 64, 65} {
			if frags >= 0 {
				checkIs(t, 1 <= ops+frags && ops+frags <= 64, api.Query{
					Ops: slices.Repeat([]api.Op{operation(field("a"))}, ops), Frags: slices.Repeat([]api.Frag{fragment(field("a"))}, frags),
				})
			}
		}
	}
}

func TestRightKindsOfOperations(t *testing.T) {
	for _, kind := range []int{-1 << 63, -1, 0, 1, 2, 3, 4, 5, 257, 1 << 40} {
		o := operation(field("a"))
		o.Kind = kind
		checkIs(t, 1 <= kind && kind <= 3, api.Query{Ops: []api.Op{o}})
		checkIs(t, 1 <= kind && kind <= 3, api.Query{Ops: []api.Op{operation(field("a")), o}})
	}
	checkIs(t, false, api.Query{Ops: []api.Op{{}}})
	checkIs(t, false, api.Query{Frags: []api.Frag{{}}})
}

// Each kind of selections has certain parts; some of them must not be empty, and all other parts must be.
func TestRightParts(t *testing.T) {
	full := api.Sel{Alias: "a", Name: "b", On: "T", Args: []api.Arg{{Name: "x"}}, Dirs: []api.Dir{{Name: "d"}}, Sels: []api.Sel{field("a")}}
	const alias, name, on, args, dirs, sels = 1, 2, 4, 8, 16, 32
	needed := map[int]int{api.SField: name, api.SSpread: name, api.SInline: sels}
	possible := map[int]int{api.SField: alias | name | args | dirs | sels, api.SSpread: name | dirs, api.SInline: on | dirs | sels}
	for subset := range 64 {
		s := full
		if subset&alias == 0 {
			s.Alias = ""
		}
		if subset&name == 0 {
			s.Name = ""
		}
		if subset&on == 0 {
			s.On = ""
		}
		if subset&args == 0 {
			s.Args = []api.Arg{}
		}
		if subset&dirs == 0 {
			s.Dirs = nil
		}
		if subset&sels == 0 {
			s.Sels = []api.Sel{}
		}
		for _, kind := range []int{-1 << 63, -1, 0, 1, 2, 3, 4, 257, 1 << 40} {
			s.Kind = kind
			isRight := needed[kind] != 0 && subset&needed[kind] == needed[kind] && subset&^possible[kind] == 0
			checkSelection(t, isRight, s)
		}
	}
}

func TestRightLengths(t *testing.T) {
	for count := range 131 {
		upTo := func(most int) bool { return count <= most }
		o := operation(field("a"))
		o.Vars = slices.Repeat([]api.Var{{Name: "v", Type: typeref.Named("A")}}, count)
		checkIs(t, upTo(16), api.Query{Ops: []api.Op{o}})
		for _, x := range []api.Sel{field("a"), spread("f"), inline("", field("a"))} {
			eachSet(func(level int, mayBeEmpty bool, document func(l []api.Sel) api.Query) {
				if level < 4 {
					checkIs(t, upTo(64) && (mayBeEmpty || count > 0), document(slices.Repeat([]api.Sel{x}, count)))
				}
			})
			if count > 40 {
				continue
			}
			x.Dirs = slices.Repeat([]api.Dir{{Name: "d"}}, count)
			checkSelection(t, upTo(16), x)
			x.Dirs = []api.Dir{{Name: "d"}, {Name: "e", Args: slices.Repeat([]api.Arg{{Name: "x"}}, count)}}
			checkSelection(t, upTo(16), x)
		}
		if count <= 40 {
			checkSelection(t, upTo(16), api.Sel{Kind: api.SField, Name: "a", Args: slices.Repeat([]api.Arg{{Name: "x"}}, count)})
		}
	}
}

// A selection set within one of the level 24 must be empty; so there are no inline fragments.
func TestRightLevels(t *testing.T) {
	eachSet(func(level int, _ bool, document func(l []api.Sel) api.Query) {
		checkIs(t, true, document([]api.Sel{field("a"), spread("f")}))
		for _, below := range []api.Sel{field("b", field("a")), field("b", spread("f")), inline("", field("a")), inline("T", spread("f"))} {
			checkIs(t, level < 24, document([]api.Sel{below}))
			checkIs(t, level < 24, document([]api.Sel{field("a"), field("c"), below}))
			checkIs(t, level < 23, document([]api.Sel{field("a", below)}))
			checkIs(t, level < 23, document([]api.Sel{inline("", below)}))
		}
		checkIs(t, false, document([]api.Sel{inline("")}))
		checkIs(t, true, document([]api.Sel{{Kind: api.SField, Name: "a", Sels: []api.Sel{}}}))
	})
}

// A selection whose selections contain itself has too many levels.
func TestRightOfEndlessSelections(t *testing.T) {
	l := make([]api.Sel, 64)
	for i := range l {
		l[i] = []api.Sel{field("a", l...), inline("", l...), inline("T", l...)}[i%3]
		l[i].Sels = l
	}
	if query.Right(api.Query{Ops: []api.Op{{Kind: api.OQuery, Sels: l}}}) || query.Right(api.Query{Frags: []api.Frag{{Name: "f", On: "T", Sels: l}}}) {
		t.Error("endless selections")
	}
	v := value.List([]api.Value{{}})
	v.Items[0] = v
	q := plain(api.Sel{Kind: api.SField, Name: "a", Args: []api.Arg{{Name: "x", Value: v}}})
	if query.Right(q) {
		t.Error("an endless value")
	}
}

// eachDirectives calls visit for selections of every kind, which may have directives.
func eachDirectives(visit func(s api.Sel)) {
	for _, s := range []api.Sel{field("a"), field("a", field("b")), spread("f"), inline("", field("a")), inline("T", field("a"))} {
		visit(s)
	}
}

func TestRightNames(t *testing.T) {
	check := func(want, wantEmpty, wantOn bool, name string) {
		o := operation(field("a"))
		o.Name = name
		checkIs(t, want || wantEmpty, api.Query{Ops: []api.Op{o}})
		o = operation(field("a"))
		o.Vars = []api.Var{{Name: "v", Type: typeref.Named("A")}, {Name: name, Type: typeref.Named("A")}}
		checkIs(t, want, api.Query{Ops: []api.Op{o}})
		o.Vars = []api.Var{{Name: "v", Type: typeref.Named(name)}}
		checkIs(t, want, api.Query{Ops: []api.Op{o}})
		checkIs(t, want && !wantOn, api.Query{Frags: []api.Frag{{Name: name, On: "T", Sels: []api.Sel{field("a")}}}})
		checkIs(t, want, api.Query{Frags: []api.Frag{{Name: "f", On: name, Sels: []api.Sel{field("a")}}}})
		checkSelection(t, want, field(name))
		checkSelection(t, want || wantEmpty, api.Sel{Kind: api.SField, Alias: name, Name: "a"})
		checkSelection(t, want, api.Sel{Kind: api.SField, Name: "a", Args: []api.Arg{{Name: "x"}, {Name: name}}})
		checkSelection(t, want && !wantOn, spread(name))
		checkSelection(t, want || wantEmpty, inline(name, field("a")))
		eachDirectives(func(s api.Sel) {
			s.Dirs = []api.Dir{{Name: "d"}, {Name: name}}
			checkSelection(t, want, s)
			s.Dirs = []api.Dir{{Name: "d"}, {Name: "d", Args: []api.Arg{{Name: "x"}, {Name: name}}}}
			checkSelection(t, want, s)
		})
	}
	for _, name := range []string{"b", "_", "__typename", "query", "fragment", "true", "null", "A1", "On", "o", "onn", strings.Repeat("n", 64)} {
		check(true, false, false, name)
	}
	for _, name := range []string{"1", "a b", "a-", " a", "a\n", "@d", "é", "\xff", "a\x00", "a!", "$a", " ", "...", strings.Repeat("n", 65)} {
		check(false, false, false, name)
	}
	check(true, false, true, "on")
	check(false, true, false, "")
}

func withVariable(v api.Var) api.Query {
	o := operation(field("a"))
	o.Vars = []api.Var{{Name: "u", Type: typeref.Named("A")}, v, {Name: "w", Type: typeref.Named("A")}}
	return api.Query{Ops: []api.Op{o}}
}

func TestRightTypes(t *testing.T) {
	long := func(wraps ...int) []int { return slices.Repeat(wraps, 100)[:24] }
	check := func(want bool, wraps ...int) {
		t.Helper()
		checkIs(t, want, withVariable(api.Var{Name: "v", Type: api.Ref{Name: "A", Wraps: wraps}}))
	}
	check(true)
	check(true, 1)
	check(true, 2)
	check(true, 1, 2, 1)
	check(true, long(2)...)
	check(true, long(1, 2)...)
	check(false, 0)
	check(false, 3)
	check(false, -1)
	check(false, 1, 1)
	check(false, 2, 1, 1)
	check(false, append(long(2), 2)...)
	check(false, append(long(1, 2), 1)...)
}

func TestRightValues(t *testing.T) {
	check := func(argument, constant bool, v api.Value) {
		t.Helper()
		checkSelection(t, argument, api.Sel{Kind: api.SField, Name: "a", Args: []api.Arg{{Name: "x"}, {Name: "y", Value: v}}})
		eachDirectives(func(s api.Sel) {
			s.Dirs = []api.Dir{{Name: "d"}, {Name: "d", Args: []api.Arg{{Name: "x"}, {Name: "y", Value: v}}}}
			checkSelection(t, argument, s)
		})
		checkIs(t, constant, withVariable(api.Var{Name: "v", Type: typeref.Named("A"), Has: true, Default: v}))
	}
	nested := func(v api.Value, levels int) api.Value {
		for range levels {
			v = value.List([]api.Value{v})
		}
		return v
	}
	for _, v := range []api.Value{
		{}, value.Int(0), value.Int(-1 << 63), value.Text(""), value.Text("\xff\n"), value.Enum("on"), value.Bool(true), value.Bool(false), value.List(nil), object(""),
		value.List([]api.Value{value.Int(1), object("a b", value.Enum("A"), value.List(nil))}), nested(value.Int(1), 23), {Kind: api.VList, Items: make([]api.Value, 4095)},
	} {
		check(true, true, v)
	}
	for _, v := range []api.Value{
		variable("a"), variable("null"), value.List([]api.Value{variable("a")}), object("a b", value.Int(1), variable("a")), object("a", nested(variable("a"), 22)),
	} {
		check(true, false, v)
	}
	for _, v := range []api.Value{
		{Kind: api.VRef}, {Kind: api.VFail}, {Kind: api.VFail, Text: "leaf"}, {Kind: -1}, {Kind: 10}, {Int: 1}, {Text: "a"}, {Kind: api.VBool, Int: 2}, {Kind: api.VText, Int: 1},
		{Keys: []string{"a"}}, {Items: []api.Value{{}}}, value.Enum(""), value.Enum("1"), value.Enum("true"), value.Enum("null"), variable(""), variable("1"), variable("$a"),
		{Kind: api.VVar, Text: "a", Int: 1}, object("a a", value.Int(1), value.Int(2)), object("a"), object("", value.Int(1)), object("1", value.Int(1)), object("a-b", value.Int(1)),
		nested(value.Int(1), 24), nested(variable("a"), 24), value.List([]api.Value{value.Enum("true")}), {Kind: api.VList, Items: make([]api.Value, 4096)},
	} {
		check(false, false, v)
	}
}

// Without a default value, Default is null, which has no content at all.
func TestRightWithoutADefault(t *testing.T) {
	check := func(want bool, v api.Value) {
		t.Helper()
		checkIs(t, want, withVariable(api.Var{Name: "v", Type: typeref.Named("A"), Default: v}))
	}
	check(true, api.Value{})
	check(true, api.Value{Items: []api.Value{}, Keys: []string{}})
	for _, v := range []api.Value{
		{Kind: api.VBool}, {Kind: api.VInt}, {Kind: api.VText}, {Kind: api.VEnum, Text: "A"}, {Kind: api.VList}, {Kind: api.VObject}, {Kind: api.VVar, Text: "a"}, {Kind: -1},
		{Int: 1}, {Text: "a"}, {Keys: []string{""}}, {Items: []api.Value{{}}}, {Keys: []string{"a"}, Items: []api.Value{{}}}, value.Int(1),
	} {
		check(false, v)
	}
}

// Of random right documents, each with one wrong name.
func TestRightWithOneWrongName(t *testing.T) {
	random := rand.New(rand.NewSource(8))
	for range 1000 {
		r := source{Rand: random, rare: 1 << 40}
		q, _, _ := query.Parse(r.document())
		names := namesOf(&q)
		if !query.Right(q) || len(names) == 0 {
			t.Fatal(q)
		}
		*names[r.Intn(len(names))] += r.choose("-", " ", "\x00", "é", strings.Repeat("n", 65))
		before := parts(q)
		checkIs(t, false, q)
		if after := parts(q); after != before {
			t.Errorf("Right changed %v to %v", brief(before), brief(after))
		}
	}
}

// namesOf returns the names in q that are not in values, also those that are empty.
func namesOf(q *api.Query) []*string {
	var names []*string
	args := func(l []api.Arg) {
		for i := range l {
			names = append(names, &l[i].Name)
		}
	}
	var sels func(l []api.Sel)
	sels = func(l []api.Sel) {
		for i := range l {
			names = append(names, &l[i].Alias, &l[i].Name, &l[i].On)
			args(l[i].Args)
			for k := range l[i].Dirs {
				names = append(names, &l[i].Dirs[k].Name)
				args(l[i].Dirs[k].Args)
			}
			sels(l[i].Sels)
		}
	}
	for i := range q.Ops {
		names = append(names, &q.Ops[i].Name)
		for k := range q.Ops[i].Vars {
			names = append(names, &q.Ops[i].Vars[k].Name, &q.Ops[i].Vars[k].Type.Name)
		}
		sels(q.Ops[i].Sels)
	}
	for i := range q.Frags {
		names = append(names, &q.Frags[i].Name, &q.Frags[i].On)
		sels(q.Frags[i].Sels)
	}
	return names
}
