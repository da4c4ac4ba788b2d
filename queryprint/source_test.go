package queryprint_test

import (
	"fmt"
	"math"
	"math/rand"
	"reflect"
	"strconv"
	"strings"
	"testing"

	"supergraph/api"
	"supergraph/query"
)

func number(n int) api.Value { return api.Value{Kind: api.VInt, Int: n} }

func str(s string) api.Value { return api.Value{Kind: api.VText, Text: s} }

func enum(name string) api.Value { return api.Value{Kind: api.VEnum, Text: name} }

func variable(name string) api.Value { return api.Value{Kind: api.VVar, Text: name} }

func truth(n int) api.Value { return api.Value{Kind: api.VBool, Int: n} }

func listOf(items ...api.Value) api.Value { return api.Value{Kind: api.VList, Items: items} }

func object(keys string, items ...api.Value) api.Value {
	return api.Value{Kind: api.VObject, Keys: strings.Fields(keys), Items: items}
}

func arg(name string, v api.Value) api.Arg { return api.Arg{Name: name, Value: v} }

func directive(name string, args ...api.Arg) api.Dir { return api.Dir{Name: name, Args: args} }

func field(name string, sels ...api.Sel) api.Sel {
	return api.Sel{Kind: api.SField, Name: name, Sels: sels}
}

func spread(name string) api.Sel { return api.Sel{Kind: api.SSpread, Name: name} }

func inline(on string, sels ...api.Sel) api.Sel {
	return api.Sel{Kind: api.SInline, On: on, Sels: sels}
}

func operation(kind int, sels ...api.Sel) api.Op { return api.Op{Kind: kind, Sels: sels} }

func document(sels ...api.Sel) api.Query {
	return api.Query{Ops: []api.Op{operation(api.OQuery, sels...)}}
}

func read(t *testing.T, s string) api.Query {
	t.Helper()
	q, at, code := query.Parse(s)
	if code != api.OK {
		t.Fatalf("%q is not read: %d, %d", brief(s), at, code)
	}
	return q
}

// whole returns all parts of a document as text; empty lists are like nil.
func whole(q api.Query) string { return strings.ReplaceAll(fmt.Sprintf("%#v", q), "(nil)", "{}") }

// content returns all parts of a document as text, but as many keys of each value as it has items.
func content(q api.Query) string {
	q = clone(q)
	eachPart(reflect.ValueOf(&q).Elem(), func(part reflect.Value) {
		if v, ok := part.Addr().Interface().(*api.Value); ok {
			keys := make([]string, len(v.Items))
			copy(keys, v.Keys)
			v.Keys = keys
		}
	})
	return whole(q)
}

// clone copies a document with all its memory.
func clone(q api.Query) api.Query { return copyOf(reflect.ValueOf(q)).Interface().(api.Query) }

func copyOf(x reflect.Value) reflect.Value {
	c := reflect.New(x.Type()).Elem()
	c.Set(x)
	switch {
	case x.Kind() == reflect.Slice && x.Len() > 0:
		c.Set(reflect.MakeSlice(x.Type(), x.Len(), x.Len()))
		for i := range x.Len() {
			c.Index(i).Set(copyOf(x.Index(i)))
		}
	case x.Kind() == reflect.Struct:
		for i := range x.NumField() {
			c.Field(i).Set(copyOf(x.Field(i)))
		}
	}
	return c
}

// brief shortens what an error reports.
func brief(s string) string {
	if len(s) <= 600 {
		return s
	}
	return s[:300] + " .. " + s[len(s)-300:]
}

// eachPart calls visit for x and for every part of it, each before its own parts.
func eachPart(x reflect.Value, visit func(part reflect.Value)) {
	visit(x)
	switch x.Kind() {
	case reflect.Slice:
		for i := range x.Len() {
			eachPart(x.Index(i), visit)
		}
	case reflect.Struct:
		for i := range x.NumField() {
			eachPart(x.Field(i), visit)
		}
	}
}

// withEmptyLists replaces nil in a document by empty lists. It changes the document.
func withEmptyLists(q *api.Query) {
	eachPart(reflect.ValueOf(q).Elem(), func(part reflect.Value) {
		if part.Kind() == reflect.Slice && part.Len() == 0 {
			part.Set(reflect.MakeSlice(part.Type(), 0, 2))
		}
	})
}

// A source makes random documents. Their lists are short, apart from some with the number of elements
// of the limit; there are few names, so that many of them are repeated.
type source struct {
	*rand.Rand
	rare int  // one of so many lists is long
	wild bool // the documents need not be right
}

func (r source) count(least, most int) int {
	if r.Intn(r.rare) == 0 {
		return most
	}
	return least + r.Intn(3)
}

func (r source) choose(l ...string) string { return l[r.Intn(len(l))] }

func (r source) name() string {
	if r.wild && r.Intn(4) == 0 {
		return r.choose("", " ", "1", "é", "\xff", "a\x00", "\n", "\n}\n", "\"", "@a", "a b", "...", "{", strings.Repeat("w", 70))
	}
	if r.Intn(8) == 0 {
		return "n" + strconv.Itoa(r.Intn(1000))
	}
	return r.choose("a", "b", "A", "_", "a1", "aa", "__typename", "query", "mutation", "subscription", "fragment", "true", "null", "on", strings.Repeat("n", 64))
}

func (r source) fragmentName() string {
	if r.wild || r.Intn(6) == 0 {
		if s := r.name(); r.wild || s != "on" {
			return s
		}
	}
	return r.choose("f", "g", "h", "i", "F", "f1", "a", "query", "On")
}

func (r source) either(l ...func() string) string { return l[r.Intn(len(l))]() }

func (r source) nothing() string { return "" }

func several[T any](count int, one func() T) []T {
	var l []T
	for range count {
		l = append(l, one())
	}
	return l
}

func (r source) document() api.Query {
	var q api.Query
	for range r.count(1, api.MaxDefs) {
		if r.Intn(2) == 0 {
			q.Ops = append(q.Ops, r.operation())
		} else {
			q.Frags = append(q.Frags, api.Frag{Name: r.fragmentName(), On: r.name(), Sels: r.selections(r.levels())})
		}
	}
	return q
}

func (r source) operation() api.Op {
	o := api.Op{Kind: 1 + r.Intn(3), Name: r.either(r.name, r.nothing), Sels: r.selections(r.levels())}
	if r.Intn(2) == 0 {
		o.Vars = several(r.count(0, api.MaxArgs), r.variable)
	}
	if r.wild && r.Intn(4) == 0 {
		o.Kind = r.Intn(12) - 4
	}
	return o
}

func (r source) levels() int { return r.count(1, api.MaxDepth) + r.Intn(2)*r.Intn(2) }

func (r source) variable() api.Var {
	v := api.Var{Name: r.name(), Type: r.reference()}
	if r.Intn(2) == 0 {
		v.Has, v.Default = true, r.value(r.count(1, api.MaxDepth), false)
	}
	if r.wild && r.Intn(4) == 0 {
		v.Has = !v.Has
	}
	return v
}

func (r source) reference() api.Ref {
	t := api.Ref{Name: r.name()}
	for n := r.count(0, api.MaxDepth); len(t.Wraps) < n; {
		if k := len(t.Wraps); r.Intn(2) == 0 && (r.wild || k == 0 || t.Wraps[k-1] != api.WNonNull) {
			t.Wraps = append(t.Wraps, api.WNonNull)
		} else {
			t.Wraps = append(t.Wraps, api.WList)
		}
	}
	return t
}

// selections returns a selection set with this many levels, but at most MaxDepth: its first selection
// has all those below, the others have few.
func (r source) selections(levels int) []api.Sel {
	levels = min(levels, api.MaxDepth)
	below := levels - 1
	return several(r.count(1, api.MaxFields), func() api.Sel {
		s := r.selection(below)
		below = min(levels-1, r.Intn(8)-5)
		return s
	})
}

func (r source) selection(below int) api.Sel {
	var set []api.Sel
	if below > 0 {
		set = r.selections(below)
	}
	s := api.Sel{Kind: api.SField, Name: r.name(), Alias: r.either(r.name, r.nothing), Args: r.arguments(), Dirs: r.directives(), Sels: set}
	switch {
	case r.wild && r.Intn(4) == 0:
		s.Kind, s.On = r.Intn(7)-2, r.name()
	case set == nil && r.Intn(2) == 0:
		s = api.Sel{Kind: api.SSpread, Name: r.fragmentName(), Dirs: s.Dirs}
	case set != nil && r.Intn(3) == 0:
		s = api.Sel{Kind: api.SInline, On: r.either(r.name, r.nothing), Dirs: s.Dirs, Sels: set}
	}
	return s
}

func (r source) directives() []api.Dir {
	if r.Intn(3) > 0 {
		return nil
	}
	return several(r.count(0, api.MaxArgs), func() api.Dir {
		return api.Dir{Name: r.name(), Args: r.arguments()}
	})
}

func (r source) arguments() []api.Arg {
	if r.Intn(3) > 0 {
		return nil
	}
	return several(r.count(0, api.MaxArgs), func() api.Arg {
		return api.Arg{Name: r.name(), Value: r.value(r.count(0, 3), true)}
	})
}

// value returns a value with at most this many levels.
func (r source) value(levels int, variables bool) api.Value {
	if r.wild && r.Intn(9) == 0 {
		return api.Value{Kind: r.Intn(14) - 2, Int: r.Intn(3), Text: r.name(), Items: several(r.Intn(3), func() api.Value { return r.value(1, true) }), Keys: several(r.Intn(3), r.name)}
	}
	if levels <= 1 {
		return r.leaf(variables)
	}
	v := api.Value{Kind: api.VList + r.Intn(2)}
	below := levels - 1
	for i := range r.Intn(4) {
		v.Items = append(v.Items, r.value(below, variables))
		below = min(levels-1, r.Intn(8)-4)
		if v.Kind == api.VObject {
			v.Keys = append(v.Keys, r.choose("k", "on", "null")+strconv.Itoa(i))
		}
	}
	return v
}

func (r source) leaf(variables bool) api.Value {
	switch r.Intn(8) {
	case 0:
		return api.Value{}
	case 1:
		return truth(r.Intn(2))
	case 2:
		return number([]int{0, -1, 7, math.MaxInt, math.MinInt, int(r.Uint64())}[r.Intn(6)])
	case 3:
		b := make([]byte, r.Intn(6))
		r.Read(b)
		return str(string(b))
	case 4:
		return str(r.choose("", "{", "}", "]", "on", "true", "\"", "#", ",", " ", "...", "$a", "a", "\n"))
	case 5:
		return api.Value{Kind: api.VList + r.Intn(2)}
	case 6:
		if variables {
			return variable(r.name())
		}
	}
	return enum(r.choose("a", "TRUE", "Null", "type", "query", "on", "__x", "RED"))
}

// eachRight calls visit for many random right documents.
func eachRight(visit func(r source, q api.Query)) { eachDocument(2000, false, visit) }

// eachWild calls visit for many random documents, of which few are right.
func eachWild(visit func(r source, q api.Query)) { eachDocument(2000, true, visit) }

func eachDocument(count int, wild bool, visit func(r source, q api.Query)) {
	random := rand.New(rand.NewSource(9))
	for i := range count {
		r := source{Rand: random, rare: 12 + i%60, wild: wild}
		visit(r, r.document())
	}
}

func TestRandomDocumentsAreRight(t *testing.T) {
	kinds := map[bool]int{}
	eachRight(func(_ source, q api.Query) {
		if !query.Right(q) {
			t.Fatalf("%s is not right", brief(whole(q)))
		}
	})
	eachWild(func(_ source, q api.Query) { kinds[query.Right(q)]++ })
	if kinds[true] > kinds[false] {
		t.Error("too few wrong documents:", kinds)
	}
}
