package sdl_test

import (
	"math"
	"math/rand"
	"reflect"
	"strconv"
	"strings"
	"testing"

	"supergraph/api"
	"supergraph/sdl"
	"supergraph/text"
)

// A writer writes documents, each part of the grammar after the other, with single spaces between
// the tokens. Of documents that are not right, it notes the error that a reader finds first.
type writer struct {
	tokens []string
	at     int // where the next token begins
	nodes  int
	failed bool
	wrong  int
	code   api.Errno
}

func (w *writer) put(tokens ...string) {
	w.tokens = append(w.tokens, tokens...)
	for _, s := range tokens {
		w.at += len(s) + 1
	}
}

func (w *writer) fail(bad bool, at int, code api.Errno) {
	if bad && !w.failed {
		w.failed, w.wrong, w.code = true, at, code
	}
}

func (w *writer) text() string { return strings.Join(w.tokens, " ") }

func write(d api.Doc) *writer {
	w := &writer{}
	for i, x := range d.Defs {
		w.fail(i >= api.MaxDefs, w.at, api.ErrSize)
		w.definition(x)
	}
	return w
}

func (w *writer) definition(d api.Def) {
	words := map[int]string{api.DObject: "type", api.DInterface: "interface", api.DUnion: "union", api.DEnum: "enum", api.DInput: "input"}
	w.put(words[d.Kind], d.Name)
	for i, name := range d.Implements {
		w.put(map[bool]string{true: "implements", false: "&"}[i == 0])
		w.fail(i >= api.MaxFields, w.at, api.ErrSize)
		w.put(name)
	}
	w.directives(d.Dirs)
	if d.Kind == api.DUnion {
		for i, m := range d.Members {
			w.put(map[bool]string{true: "=", false: "|"}[i == 0])
			w.fail(i >= api.MaxFields, w.at, api.ErrSize)
			w.put(m.Name)
		}
		return
	}
	w.put("{")
	for i, f := range d.Fields {
		w.fail(i >= api.MaxFields, w.at, api.ErrSize)
		w.field(f)
	}
	for i, m := range d.Members {
		w.fail(i >= api.MaxFields, w.at, api.ErrSize)
		w.put(m.Name)
		w.directives(m.Dirs)
	}
	w.inputs(d.Inputs)
	w.put("}")
}

func (w *writer) field(f api.Field) {
	w.put(f.Name)
	if len(f.Args) > 0 {
		w.put("(")
		w.inputs(f.Args)
		w.put(")")
	}
	w.put(":")
	w.reference(f.Type)
	w.directives(f.Dirs)
}

func (w *writer) inputs(l []api.Input) {
	for i, x := range l {
		w.fail(i >= api.MaxArgs, w.at, api.ErrSize)
		w.put(x.Name, ":")
		w.reference(x.Type)
		if x.Has {
			w.put("=")
			w.whole(x.Default)
		}
		w.directives(x.Dirs)
	}
}

func (w *writer) directives(l []api.Dir) {
	for i, d := range l {
		w.fail(i >= api.MaxArgs, w.at, api.ErrSize)
		w.put("@", d.Name)
		for k, a := range d.Args {
			if k == 0 {
				w.put("(")
			}
			w.fail(k >= api.MaxArgs, w.at, api.ErrSize)
			w.put(a.Name, ":")
			w.whole(a.Value)
		}
		if len(d.Args) > 0 {
			w.put(")")
		}
	}
}

func (w *writer) reference(t api.Ref) {
	start := w.at
	after := []string{}
	for _, wrap := range t.Wraps {
		if wrap == api.WList {
			w.put("[")
			after = append([]string{"]"}, after...)
		} else {
			after = append([]string{"!"}, after...)
		}
	}
	w.put(t.Name)
	w.put(after...)
	w.fail(len(t.Wraps) > api.MaxDepth, start, api.ErrDepth)
}

func (w *writer) whole(v api.Value) {
	w.nodes = 0
	w.value(v, 1)
}

func (w *writer) value(v api.Value, level int) {
	w.nodes++
	w.fail(level > api.MaxDepth, w.at, api.ErrDepth)
	w.fail(w.nodes > api.MaxNodes, w.at, api.ErrSize)
	switch v.Kind {
	case api.VNull:
		w.put("null")
	case api.VBool:
		w.put([]string{"false", "true"}[v.Int])
	case api.VInt:
		w.put(strconv.Itoa(v.Int))
	case api.VText:
		w.put(text.Quote(v.Text))
	case api.VEnum:
		w.put(v.Text)
	case api.VList:
		w.put("[")
		for _, x := range v.Items {
			w.value(x, level+1)
		}
		w.put("]")
	case api.VObject:
		w.put("{")
		seen := map[string]bool{}
		for i, x := range v.Items {
			w.fail(seen[v.Keys[i]], w.at, api.ErrTwice)
			seen[v.Keys[i]] = true
			w.put(v.Keys[i], ":")
			w.value(x, level+1)
		}
		w.put("}")
	}
}

// same compares documents; empty lists are equal to nil.
func same(a, b api.Doc) bool { return sameParts(reflect.ValueOf(a), reflect.ValueOf(b)) }

func sameParts(a, b reflect.Value) bool {
	switch a.Kind() {
	case reflect.Slice:
		if a.Len() != b.Len() {
			return false
		}
		for i := range a.Len() {
			if !sameParts(a.Index(i), b.Index(i)) {
				return false
			}
		}
		return true
	case reflect.Struct:
		for i := range a.NumField() {
			if !sameParts(a.Field(i), b.Field(i)) {
				return false
			}
		}
		return true
	}
	return a.Interface() == b.Interface()
}

// brief shortens what an error reports.
func brief(s string) string {
	if len(s) <= 400 {
		return s
	}
	return s[:200] + " .. " + s[len(s)-200:]
}

func checkRead(t *testing.T, s string, want api.Doc) {
	t.Helper()
	if got, at, code := sdl.Parse(s); !same(got, want) || at != 0 || code != api.OK {
		t.Errorf("Parse(%q) is %v, %d, %d", brief(s), brief(write(got).text()), at, code)
	}
}

func checkError(t *testing.T, s string, at int, code api.Errno) {
	t.Helper()
	if d, i, e := sdl.Parse(s); !same(d, api.Doc{}) || i != at || e != code {
		t.Errorf("Parse(%q) is %v, %d, %d, not %d, %d", brief(s), brief(write(d).text()), i, e, at, code)
	}
}

// A source makes random documents. Their lists are short, apart from some with the number of
// elements of the limit, or, if the source is wild, with a few more.
type source struct {
	*rand.Rand
	wild bool
	rare int // one of so many lists is long
}

func (r source) count(least, most int) int {
	switch {
	case r.Intn(r.rare) > 0:
		return least + r.Intn(3)
	case r.wild:
		return most + r.Intn(3)
	}
	return most
}

func (r source) name() string {
	names := []string{"a", "b", "A", "_", "__typename", "x1", "type", "interface", "union", "enum", "input", "implements", "on", "query", "true", "false", "null", "Int", strings.Repeat("n", 64)}
	if r.Intn(3) == 0 {
		return "n" + strconv.Itoa(r.Intn(1000))
	}
	return names[r.Intn(len(names))]
}

func several[T any](count int, one func() T) []T {
	var l []T
	for range count {
		l = append(l, one())
	}
	return l
}

func (r source) document() api.Doc {
	return api.Doc{Defs: several(r.count(1, api.MaxDefs), r.definition)}
}

func (r source) definition() api.Def {
	d := api.Def{Kind: 1 + r.Intn(5), Name: r.name(), Dirs: r.directives()}
	switch d.Kind {
	case api.DObject:
		d.Implements = several(r.count(0, api.MaxFields), r.name)
		d.Fields = several(r.count(1, api.MaxFields), r.field)
	case api.DInterface:
		d.Fields = several(r.count(1, api.MaxFields), r.field)
	case api.DUnion:
		d.Members = several(r.count(1, api.MaxFields), func() api.Member { return api.Member{Name: r.name()} })
	case api.DEnum:
		d.Members = several(r.count(1, api.MaxFields), func() api.Member { return api.Member{Name: r.name(), Dirs: r.directives()} })
	case api.DInput:
		d.Inputs = several(r.count(1, api.MaxArgs), r.input)
	}
	return d
}

func (r source) field() api.Field {
	f := api.Field{Name: r.name(), Type: r.reference(), Dirs: r.directives()}
	if r.Intn(2) == 0 {
		f.Args = several(r.count(0, api.MaxArgs), r.input)
	}
	return f
}

func (r source) input() api.Input {
	i := api.Input{Name: r.name(), Type: r.reference(), Dirs: r.directives()}
	if r.Intn(2) == 0 {
		i.Has, i.Default = true, r.value(r.count(1, api.MaxDepth))
	}
	return i
}

func (r source) directives() []api.Dir {
	if r.Intn(2) == 0 {
		return nil
	}
	return several(r.count(0, api.MaxArgs), func() api.Dir {
		return api.Dir{Name: r.name(), Args: several(r.count(0, api.MaxArgs), func() api.Arg {
			return api.Arg{Name: r.name(), Value: r.value(r.count(0, 3))}
		})}
	})
}

func (r source) reference() api.Ref {
	t := api.Ref{Name: r.name()}
	for n := r.count(0, api.MaxDepth); len(t.Wraps) < n; {
		if k := len(t.Wraps); r.Intn(2) == 0 && (k == 0 || t.Wraps[k-1] != api.WNonNull) {
			t.Wraps = append(t.Wraps, api.WNonNull)
		} else {
			t.Wraps = append(t.Wraps, api.WList)
		}
	}
	return t
}

// value returns a value with at most this many levels.
func (r source) value(levels int) api.Value {
	if levels <= 1 || r.Intn(r.rare) == 0 {
		return r.leaf()
	}
	v := api.Value{Kind: api.VList + r.Intn(2)}
	count := r.Intn(4)
	for i := range count {
		below := 1 + r.Intn(levels-1)
		if i == 0 {
			below = levels - 1
		}
		v.Items = append(v.Items, r.value(below))
	}
	if v.Kind == api.VObject {
		v.Keys = r.keys(count)
	}
	return v
}

func (r source) keys(count int) []string {
	var keys []string
	for i := range count {
		key := r.name()
		for k := 0; k < i && !r.wild; k++ {
			if keys[k] == key {
				key, k = r.name(), -1
			}
		}
		keys = append(keys, key)
	}
	return keys
}

func (r source) leaf() api.Value {
	switch r.Intn(7) {
	case 0:
		return api.Value{}
	case 1:
		return api.Value{Kind: api.VBool, Int: r.Intn(2)}
	case 2:
		return api.Value{Kind: api.VInt, Int: []int{0, -1, 7, math.MaxInt, math.MinInt, int(r.Uint64())}[r.Intn(6)]}
	case 3:
		b := make([]byte, r.Intn(6))
		r.Read(b)
		return api.Value{Kind: api.VText, Text: string(b)}
	case 4:
		return api.Value{Kind: api.VText, Text: []string{"", "{", "}", "]", "type", "true", "\"", "#", ",", " ", "@", "!", "a"}[r.Intn(13)]}
	case 5:
		return api.Value{Kind: api.VList + r.Intn(2)}
	}
	return api.Value{Kind: api.VEnum, Text: []string{"a", "TRUE", "Null", "type", "input", "on", "__x", "RED"}[r.Intn(8)]}
}

// eachRight calls visit for many random right documents that are not too long.
func eachRight(visit func(r source, d api.Doc, w *writer)) {
	random := rand.New(rand.NewSource(6))
	for i := range 3000 {
		r := source{Rand: random, rare: 5 + i%60}
		d := r.document()
		if w := write(d); w.at <= api.MaxText {
			visit(r, d, w)
		}
	}
}

// P6.1, P6.3, P6.4

func TestWrittenDocumentsAreRead(t *testing.T) {
	count := 0
	eachRight(func(_ source, d api.Doc, w *writer) {
		count++
		if t.Failed() {
			return
		}
		if w.failed || !sdl.Right(d) {
			t.Errorf("%q is not right: %d, %d", brief(w.text()), w.wrong, w.code)
		}
		checkRead(t, w.text(), d)
	})
	if count < 2500 {
		t.Error("too few documents:", count)
	}
}

// What is read is right, with any separators.
func TestOtherSeparators(t *testing.T) {
	separators := []string{" ", "\t", "\n", "\r", ",", "#\n", "#\r", "# type A { x: Int } \"\n", "#é\xff\r", " ,, \t", "\n\n#a\n"}
	eachRight(func(r source, d api.Doc, w *writer) {
		if t.Failed() || w.at > api.MaxText/8 {
			return
		}
		same := separators[r.Intn(len(separators))]
		checkRead(t, same+strings.Join(w.tokens, same)+same, d)
		s := ""
		for _, x := range w.tokens {
			s += separators[r.Intn(len(separators))] + x
		}
		checkRead(t, s, d)
		checkRead(t, s+"#}", d)
		if d, _, _ := sdl.Parse(s); !sdl.Right(d) {
			t.Errorf("%q is not right", brief(s))
		}
	})
}

// Signs and string literals need no separators.
func TestFewestSeparators(t *testing.T) {
	isWord := func(c byte) bool {
		return c == '_' || '0' <= c && c <= '9' || 'A' <= c && c <= 'Z' || 'a' <= c && c <= 'z'
	}
	eachRight(func(_ source, d api.Doc, w *writer) {
		if t.Failed() {
			return
		}
		var s strings.Builder
		last := byte(' ')
		for _, x := range w.tokens {
			if isWord(last) && isWord(x[0]) {
				s.WriteByte(' ')
			}
			s.WriteString(x)
			last = x[len(x)-1]
		}
		checkRead(t, s.String(), d)
	})
}

// P6.1: beyond the limits, the first error is found.
func TestWildDocuments(t *testing.T) {
	random := rand.New(rand.NewSource(7))
	codes := map[api.Errno]int{}
	for i := range 20000 {
		r := source{Rand: random, wild: true, rare: 10 + i%300}
		d := r.document()
		w := write(d)
		if w.at > api.MaxText {
			continue
		}
		codes[w.code]++
		if w.failed != !sdl.Right(d) {
			t.Fatalf("Right of %q is %v", brief(w.text()), !w.failed)
		}
		if w.failed {
			checkError(t, w.text(), w.wrong, w.code)
		} else {
			checkRead(t, w.text(), d)
		}
		if t.Failed() {
			return
		}
	}
	for _, code := range []api.Errno{api.OK, api.ErrSize, api.ErrDepth, api.ErrTwice} {
		if codes[code] < 500 {
			t.Error("too few documents:", codes)
		}
	}
}

// P6.5

func TestConcatenation(t *testing.T) {
	var last api.Doc
	lastText := ""
	joined, full := 0, 0
	eachRight(func(r source, d api.Doc, w *writer) {
		if t.Failed() {
			return
		}
		s := w.text() + []string{"", " ", ",", "#", "# }", "\n"}[r.Intn(6)]
		if both := lastText + "\n" + s; lastText != "" && len(both) <= api.MaxText {
			want := api.Doc{Defs: append(append([]api.Def{}, last.Defs...), d.Defs...)}
			if len(want.Defs) <= api.MaxDefs {
				joined++
				checkRead(t, both, want)
			} else {
				full++
				rest := append([]api.Def{}, d.Defs[:api.MaxDefs-len(last.Defs)]...)
				checkError(t, both, len(lastText)+1+write(api.Doc{Defs: rest}).at, api.ErrSize)
			}
		}
		last, lastText = d, s
	})
	if joined < 500 || full < 20 {
		t.Error("too few documents:", joined, full)
	}
}
