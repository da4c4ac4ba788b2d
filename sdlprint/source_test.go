package sdlprint_test

import (
	"math"
	"math/rand"
	"reflect"
	"strconv"
	"strings"

	"supergraph/api"
)

func number(n int) api.Value { return api.Value{Kind: api.VInt, Int: n} }

func str(s string) api.Value { return api.Value{Kind: api.VText, Text: s} }

func enum(name string) api.Value { return api.Value{Kind: api.VEnum, Text: name} }

func variable(name string) api.Value { return api.Value{Kind: api.VVar, Text: name} }

func truth(n int) api.Value { return api.Value{Kind: api.VBool, Int: n} }

func listOf(items ...api.Value) api.Value { return api.Value{Kind: api.VList, Items: items} }

func object(keys string, items ...api.Value) api.Value {
	return api.Value{Kind: api.VObject, Keys: strings.Fields(keys), Items: items}
}

func ref(name string, wraps ...int) api.Ref { return api.Ref{Name: name, Wraps: wraps} }

func doc(l ...api.Def) api.Doc { return api.Doc{Defs: l} }

// brief shortens what an error reports.
func brief(s string) string {
	if len(s) <= 400 {
		return s
	}
	return s[:200] + " .. " + s[len(s)-200:]
}

// clone copies documents and their parts, with all their memory.
func clone[T any](x T) T {
	return cloneOf(reflect.ValueOf(x)).Interface().(T)
}

func cloneOf(v reflect.Value) reflect.Value {
	c := reflect.New(v.Type()).Elem()
	c.Set(v)
	switch v.Kind() {
	case reflect.Slice:
		if !v.IsNil() {
			c.Set(reflect.MakeSlice(v.Type(), v.Len(), v.Len()))
		}
		for i := range v.Len() {
			c.Index(i).Set(cloneOf(v.Index(i)))
		}
	case reflect.Struct:
		for i := range v.NumField() {
			c.Field(i).Set(cloneOf(v.Field(i)))
		}
	}
	return c
}

// eachPart calls visit for x, and for every part of it, in order.
func eachPart(x reflect.Value, visit func(part reflect.Value)) {
	visit(x)
	switch x.Kind() {
	case reflect.Slice:
		for i := range x.Len() {
			eachPart(x.Index(i), visit)
		}
	case reflect.Struct:
		for i := range x.NumField() {
			eachPart(x.Field(i), visit)
		}
	}
}

// same compares documents part by part; empty lists are equal to nil, and a value has as many keys as items.
func same(a, b api.Doc) bool { return sameParts(reflect.ValueOf(a), reflect.ValueOf(b)) }

func sameParts(a, b reflect.Value) bool {
	switch x := a.Interface().(type) {
	case api.Value:
		y := b.Interface().(api.Value)
		x.Keys, y.Keys = keysOf(x), keysOf(y)
		a, b = reflect.ValueOf(x), reflect.ValueOf(y)
	}
	switch a.Kind() {
	case reflect.Slice:
		if a.Len() != b.Len() {
			return false
		}
		for i := range a.Len() {
			if !sameParts(a.Index(i), b.Index(i)) {
				return false
			}
		}
		return true
	case reflect.Struct:
		for i := range a.NumField() {
			if !sameParts(a.Field(i), b.Field(i)) {
				return false
			}
		}
		return true
	}
	return a.Interface() == b.Interface()
}

func keysOf(v api.Value) []string {
	keys := make([]string, len(v.Items))
	copy(keys, v.Keys)
	return keys
}

// A source makes random documents. Their lists are short, apart from some with the number of elements of the limit.
type source struct {
	*rand.Rand
	rare int // one of so many lists is long
	wild bool
}

func (r source) count(least, most int) int {
	if r.Intn(r.rare) == 0 {
		return most
	}
	return least + r.Intn(3)
}

func (r source) name() string {
	names := []string{"a", "b", "A", "B", "Z", "_", "__typename", "x1", "x", "x_", "type", "interface", "union", "enum", "input", "implements", "on", "query", "true", "false", "null", "Int", strings.Repeat("n", 64)}
	if r.wild && r.Intn(4) == 0 {
		return []string{"", " ", "1", "é", "\xff", "\x80a", "a\x00", "\n", "\"", "@a", "a b", "a!"}[r.Intn(12)]
	}
	if r.Intn(3) == 0 {
		return "n" + strconv.Itoa(r.Intn(1000))
	}
	return names[r.Intn(len(names))]
}

func several[T any](count int, one func() T) []T {
	var l []T
	for range count {
		l = append(l, one())
	}
	return l
}

// document returns a right document, or, if the source is wild, any one.
func (r source) document() api.Doc {
	if r.wild {
		return api.Doc{Defs: several(r.count(0, api.MaxDefs), r.wildDefinition)}
	}
	return api.Doc{Defs: several(r.count(1, api.MaxDefs), r.definition)}
}

func (r source) definition() api.Def {
	d := api.Def{Kind: 1 + r.Intn(5), Name: r.name(), Dirs: r.directives()}
	switch d.Kind {
	case api.DObject:
		d.Implements = several(r.count(0, api.MaxFields), r.name)
		d.Fields = several(r.count(1, api.MaxFields), r.field)
	case api.DInterface:
		d.Fields = several(r.count(1, api.MaxFields), r.field)
	case api.DUnion:
		d.Members = several(r.count(1, api.MaxFields), func() api.Member { return api.Member{Name: r.name()} })
	case api.DEnum:
		d.Members = several(r.count(1, api.MaxFields), r.member)
	case api.DInput:
		d.Inputs = several(r.count(1, api.MaxArgs), r.input)
	}
	return d
}

// wildDefinition returns a definition that can have all lists, whatever its kind is.
func (r source) wildDefinition() api.Def {
	d := api.Def{Kind: r.Intn(8) - 1, Name: r.name(), Dirs: r.directives()}
	d.Implements = several(r.count(0, api.MaxFields+1), r.name)
	d.Fields = several(r.count(0, 20), r.field)
	d.Members = several(r.count(0, api.MaxFields+1), r.member)
	d.Inputs = several(r.count(0, api.MaxArgs+5), r.input)
	return d
}

func (r source) member() api.Member { return api.Member{Name: r.name(), Dirs: r.directives()} }

func (r source) field() api.Field {
	f := api.Field{Name: r.name(), Type: r.reference(), Dirs: r.directives()}
	if r.Intn(2) == 0 {
		f.Args = several(r.count(0, api.MaxArgs), r.input)
	}
	return f
}

func (r source) input() api.Input {
	i := api.Input{Name: r.name(), Type: r.reference(), Dirs: r.directives()}
	if r.Intn(2) == 0 {
		i.Has, i.Default = true, r.value(r.count(1, api.MaxDepth))
	}
	if r.wild && r.Intn(4) == 0 {
		i.Has = !i.Has
	}
	return i
}

func (r source) directives() []api.Dir {
	if r.Intn(2) == 0 {
		return nil
	}
	return several(r.count(0, api.MaxArgs), func() api.Dir {
		return api.Dir{Name: r.name(), Args: several(r.count(0, api.MaxArgs), func() api.Arg {
			return api.Arg{Name: r.name(), Value: r.value(r.count(0, 3))}
		})}
	})
}

func (r source) reference() api.Ref {
	t := api.Ref{Name: r.name()}
	for n := r.count(0, api.MaxDepth); len(t.Wraps) < n; {
		if k := len(t.Wraps); r.Intn(2) == 0 && (r.wild || k == 0 || t.Wraps[k-1] != api.WNonNull) {
			t.Wraps = append(t.Wraps, api.WNonNull)
		} else {
			t.Wraps = append(t.Wraps, api.WList)
		}
		if r.wild && r.Intn(9) == 0 {
			t.Wraps = append(t.Wraps, r.Intn(6)-2)
		}
	}
	return t
}

// value returns a value with at most this many levels.
func (r source) value(levels int) api.Value {
	if levels <= 1 || r.Intn(r.rare) == 0 {
		return r.leaf()
	}
	v := api.Value{Kind: api.VList + r.Intn(2)}
	count := r.Intn(4)
	for i := range count {
		below := 1 + r.Intn(levels-1)
		if i == 0 {
			below = levels - 1
		}
		v.Items = append(v.Items, r.value(below))
	}
	if v.Kind == api.VObject {
		v.Keys = r.keys(count)
	}
	if r.wild && r.Intn(3) == 0 {
		v.Kind, v.Int, v.Text, v.Keys = r.Intn(12)-1, r.Intn(2), r.name(), several(r.Intn(4), r.name)
	}
	return v
}

func (r source) keys(count int) []string {
	var keys []string
	for i := range count {
		key := r.name()
		for k := 0; k < i && !r.wild; k++ {
			if keys[k] == key {
				key, k = r.name(), -1
			}
		}
		keys = append(keys, key)
	}
	return keys
}

func (r source) leaf() api.Value {
	switch r.Intn(7) {
	case 0:
		return api.Value{}
	case 1:
		return truth(r.Intn(2))
	case 2:
		return number([]int{0, -1, 7, math.MaxInt, math.MinInt, int(r.Uint64())}[r.Intn(6)])
	case 3:
		b := make([]byte, r.Intn(6))
		r.Read(b)
		return str(string(b))
	case 4:
		return str([]string{"", "{", "}", "]", "type", "true", "\"", "#", ",", " ", "@", "!", "a"}[r.Intn(13)])
	case 5:
		return api.Value{Kind: api.VList + r.Intn(2)}
	}
	return enum([]string{"a", "TRUE", "Null", "type", "input", "on", "__x", "RED"}[r.Intn(8)])
}

// eachRight calls visit for many random right documents.
func eachRight(visit func(r source, d api.Doc)) { eachDocument(false, visit) }

// eachWild calls visit for many random documents, of which nearly none is right.
func eachWild(visit func(r source, d api.Doc)) { eachDocument(true, visit) }

func eachDocument(wild bool, visit func(r source, d api.Doc)) {
	random := rand.New(rand.NewSource(7))
	for i := range 1500 {
		r := source{Rand: random, rare: 5 + i%60, wild: wild}
		visit(r, r.document())
	}
}
