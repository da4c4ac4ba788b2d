package schema_test

import (
	"math"
	"math/rand"
	"reflect"
	"strconv"
	"strings"
	"testing"

	"supergraph/api"
	"supergraph/sdl"
)

func parse(t *testing.T, s string) api.Doc {
	t.Helper()
	d, at, code := sdl.Parse(s)
	if code != api.OK {
		t.Fatalf("%q is not read: %d at %d", s, code, at)
	}
	return d
}

func ref(name string, wraps ...int) api.Ref { return api.Ref{Name: name, Wraps: wraps} }

func doc(l ...api.Def) api.Doc { return api.Doc{Defs: l} }

func object(name string, l ...api.Field) api.Def {
	return api.Def{Kind: api.DObject, Name: name, Fields: l}
}

func inputType(name string, l ...api.Input) api.Def {
	return api.Def{Kind: api.DInput, Name: name, Inputs: l}
}

func enum(name string, members ...string) api.Def {
	d := api.Def{Kind: api.DEnum, Name: name}
	for _, m := range members {
		d.Members = append(d.Members, api.Member{Name: m})
	}
	return d
}

func input(name string, t api.Ref) api.Input { return api.Input{Name: name, Type: t} }

// clone copies documents and their parts, with all their memory.
func clone[T any](x T) T {
	return cloneOf(reflect.ValueOf(x)).Interface().(T)
}

func cloneOf(v reflect.Value) reflect.Value {
	c := reflect.New(v.Type()).Elem()
	c.Set(v)
	switch v.Kind() {
	case reflect.Slice:
		if !v.IsNil() {
			c.Set(reflect.MakeSlice(v.Type(), v.Len(), v.Len()))
		}
		for i := range v.Len() {
			c.Index(i).Set(cloneOf(v.Index(i)))
		}
	case reflect.Struct:
		for i := range v.NumField() {
			c.Field(i).Set(cloneOf(v.Field(i)))
		}
	}
	return c
}

// brief shortens what an error reports.
func brief(s string) string {
	if len(s) <= 600 {
		return s
	}
	return s[:300] + " .. " + s[len(s)-300:]
}

// A source makes random documents of definitions that refer to each other: it has few names.
type source struct{ *rand.Rand }

// pick returns one of some texts that are separated by spaces.
func (r source) pick(texts string) string {
	l := strings.Split(texts, " ")
	return l[r.Intn(len(l))]
}

func (r source) typeName() string {
	switch r.Intn(12) {
	case 0:
		return r.pick("Int String Boolean ID Float int")
	case 1:
		return r.pick("Query Mutation Subscription")
	case 2:
		return r.oddName()
	}
	return r.pick("A B C D E F")
}

func (r source) partName() string {
	switch r.Intn(8) {
	case 0:
		return r.pick("true false null True nulls")
	case 1:
		return r.oddName()
	case 2:
		return "n" + strconv.Itoa(r.Intn(9))
	}
	return r.pick("a b c d")
}

func (r source) oddName() string {
	odd := []string{"", " ", "_", "__", "___", "__typename", "_x", "1", "a.b", "a(b)", "é", "a\xff", "a\x00", strings.Repeat("n", 64), strings.Repeat("n", 65), "__" + strings.Repeat("n", 62), "__" + strings.Repeat("n", 63)}
	return odd[r.Intn(len(odd))]
}

func several[T any](count int, one func() T) []T {
	var l []T
	for range count {
		l = append(l, one())
	}
	return l
}

func (r source) document() api.Doc {
	return api.Doc{Defs: several(r.Intn(9), r.definition)}
}

// definition returns a definition that can have all lists, and any kind; many are input types.
func (r source) definition() api.Def {
	d := api.Def{Kind: 1 + r.Intn(5), Name: r.typeName(), Implements: several(r.Intn(2), r.typeName), Dirs: r.directives()}
	switch r.Intn(12) {
	case 0:
		d.Kind = []int{0, -1, 6, 7, math.MinInt, math.MaxInt}[r.Intn(6)]
	case 1, 2, 3:
		d.Kind = api.DInput
	}
	if d.Kind == api.DObject || d.Kind == api.DInterface || r.Intn(4) == 0 {
		d.Fields = several(r.Intn(5), r.field)
	}
	if d.Kind == api.DUnion || d.Kind == api.DEnum || r.Intn(4) == 0 {
		d.Members = several(r.Intn(5), r.member)
	}
	if d.Kind == api.DInput || r.Intn(4) == 0 {
		d.Inputs = several(r.Intn(5), r.input)
	}
	return d
}

func (r source) member() api.Member { return api.Member{Name: r.partName(), Dirs: r.directives()} }

func (r source) field() api.Field {
	return api.Field{Name: r.partName(), Type: r.reference(), Args: several(r.Intn(4), r.input), Dirs: r.directives()}
}

func (r source) input() api.Input {
	return api.Input{Name: r.partName(), Type: r.reference(), Has: r.Intn(2) == 0, Default: api.Value{Kind: r.Intn(3)}, Dirs: r.directives()}
}

func (r source) directives() []api.Dir {
	return several(max(0, r.Intn(4)-2), func() api.Dir {
		return api.Dir{Name: r.partName(), Args: []api.Arg{{Name: r.partName()}}}
	})
}

// reference returns a type reference, of which about half are not null and no lists.
func (r source) reference() api.Ref {
	t := api.Ref{Name: r.typeName()}
	if r.Intn(2) == 0 {
		t.Wraps = []int{api.WNonNull}
	} else {
		t.Wraps = several(r.Intn(4), func() int { return []int{api.WNonNull, api.WList, api.WNonNull, 0, 3}[r.Intn(5)] })
	}
	return t
}

// eachDocument calls visit for many random documents.
func eachDocument(visit func(r source, d api.Doc)) {
	r := source{rand.New(rand.NewSource(10))}
	for range 20000 {
		visit(r, r.document())
	}
}

// eachKind calls visit for all documents of one definition, and of two, of two names and all kinds,
// also kinds that do not exist.
func eachKind(names []string, visit func(d api.Doc)) {
	kinds := []int{0, api.DObject, api.DInterface, api.DUnion, api.DEnum, api.DInput, 6, -1, math.MinInt, math.MaxInt}
	visit(api.Doc{})
	for _, name := range names {
		for _, kind := range kinds {
			one := api.Def{Kind: kind, Name: name}
			visit(doc(one))
			for _, other := range names {
				for _, otherKind := range kinds {
					visit(doc(one, api.Def{Kind: otherKind, Name: other}))
				}
			}
		}
	}
}
