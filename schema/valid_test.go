package schema_test

import (
	"math/rand"
	"strconv"
	"strings"
	"testing"

	"supergraph/api"
	"supergraph/schema"
	"supergraph/sdl"
)

// P10.4

// checkValid checks what holds for a document without violations.
func checkValid(t *testing.T, d api.Doc) {
	t.Helper()
	names := map[string]bool{}
	for _, x := range d.Defs {
		if names[x.Name] {
			t.Errorf("the name %q is repeated", x.Name)
		}
		names[x.Name] = true
		if x.Kind == api.DInput {
			checkInputTypes(t, d, x.Inputs)
			continue
		}
		if x.Kind != api.DObject && x.Kind != api.DInterface {
			continue
		}
		for _, f := range x.Fields {
			if !schema.Leaf(d, f.Type.Name) && !schema.Composite(d, f.Type.Name) {
				t.Errorf("in %s, %s.%s is neither Leaf nor Composite", textOf(d), x.Name, f.Name)
			}
			checkInputTypes(t, d, f.Args)
		}
	}
}

func checkInputTypes(t *testing.T, d api.Doc, l []api.Input) {
	t.Helper()
	for _, x := range l {
		if !schema.IsInput(d, x.Type.Name) {
			t.Errorf("in %s, %s is not IsInput", textOf(d), x.Name)
		}
	}
}

func TestValidDocuments(t *testing.T) {
	count := 0
	eachDocument(func(r source, d api.Doc) {
		if len(schema.Check(d, r.Intn(2) == 0)) == 0 {
			count++
			checkValid(t, d)
		}
	})
	if count < 100 {
		t.Errorf("only %d documents have no violation", count)
	}
}

// A maker makes documents without violations.
type maker struct {
	*rand.Rand
	doc  api.Doc
	most int // elements of a list
}

func names(prefix string, count int) []string {
	var l []string
	for i := range count {
		l = append(l, prefix+strconv.Itoa(i))
	}
	return l
}

// validDocument returns a document without violations with so many definitions, the first of which is Query.
func validDocument(r *rand.Rand, count, most int) api.Doc {
	m := maker{Rand: r, most: most}
	m.doc.Defs = append(m.doc.Defs, api.Def{Kind: api.DObject, Name: "Query"})
	for i := 1; i < count; i++ {
		kind := 1 + r.Intn(5)
		m.doc.Defs = append(m.doc.Defs, api.Def{Kind: kind, Name: "T" + strconv.Itoa(i)})
	}
	for i := range m.doc.Defs {
		m.fill(i)
	}
	return m.doc
}

func (m maker) count() int { return 1 + m.Intn(m.most) }

func (m maker) fill(index int) {
	x := &m.doc.Defs[index]
	switch x.Kind {
	case api.DObject, api.DInterface:
		for _, name := range names("f", m.count()) {
			x.Fields = append(x.Fields, api.Field{Name: name, Type: m.typeOf("1234", ""), Args: m.inputs(m.Intn(4), "")})
		}
	case api.DUnion, api.DEnum:
		for _, name := range names("M", m.count()) {
			x.Members = append(x.Members, api.Member{Name: name})
		}
	case api.DInput:
		x.Inputs = m.inputs(min(api.MaxArgs, m.count()), x.Name)
	}
}

func (m maker) inputs(count int, owner string) []api.Input {
	var l []api.Input
	for _, name := range names("i", count) {
		l = append(l, input(name, m.typeOf("45", owner)))
	}
	return l
}

// typeOf returns a scalar type or the name of a definition of one of some kinds, in wrappers; an input
// type can only contain those before it without a list.
func (m maker) typeOf(kinds, owner string) api.Ref {
	x := m.doc.Defs[m.Intn(len(m.doc.Defs))]
	t := ref(scalars()[m.Intn(4)])
	if strings.Contains(kinds, strconv.Itoa(x.Kind)) {
		t.Name = x.Name
	}
	number, _ := strconv.Atoi(strings.TrimPrefix(x.Name, "T"))
	ownerNumber, _ := strconv.Atoi(strings.TrimPrefix(owner, "T"))
	wraps := [][]int{nil, {api.WList}, {api.WNonNull, api.WList, api.WNonNull}, {api.WNonNull}}
	if x.Kind == api.DInput && owner != "" && number >= ownerNumber {
		wraps = wraps[:3]
	}
	t.Wraps = wraps[m.Intn(len(wraps))]
	return t
}

// Each change breaks one rule of a document without violations.
func TestBrokenDocuments(t *testing.T) {
	r := rand.New(rand.NewSource(3))
	for range 300 {
		d := validDocument(r, 1+r.Intn(12), 6)
		checkFaults(t, d, "")
		checkValid(t, d)
		for i, x := range d.Defs {
			for k, f := range x.Fields {
				checkChanged(t, d, "None "+x.Name+"."+f.Name, func(c api.Doc) { c.Defs[i].Fields[k].Type.Name = "Z" })
				checkChanged(t, d, "Name "+x.Name+".__f", func(c api.Doc) { c.Defs[i].Fields[k].Name = "__f" })
				for n, a := range f.Args {
					checkChanged(t, d, "Type "+x.Name+"."+f.Name+"("+a.Name+")", func(c api.Doc) { c.Defs[i].Fields[k].Args[n].Type.Name = "Query" })
					checkChanged(t, d, "None "+x.Name+"."+f.Name+"("+a.Name+")", func(c api.Doc) { c.Defs[i].Fields[k].Args[n].Type.Name = "" })
				}
			}
			for k, a := range x.Inputs {
				checkChanged(t, d, "Type "+x.Name+"."+a.Name, func(c api.Doc) { c.Defs[i].Inputs[k].Type.Name = "Query" })
				checkChanged(t, d, "Depth "+x.Name, func(c api.Doc) { c.Defs[i].Inputs[k].Type = ref(x.Name, api.WNonNull) })
			}
			checkChanged(t, d, "None "+x.Name, func(c api.Doc) { c.Defs[i].Fields, c.Defs[i].Members, c.Defs[i].Inputs = nil, nil, nil })
		}
	}
}

func checkChanged(t *testing.T, d api.Doc, want string, change func(c api.Doc)) {
	t.Helper()
	c := clone(d)
	change(c)
	checkFaults(t, c, want)
}

func TestCheckAtTheLimits(t *testing.T) {
	var d api.Doc
	for i := range api.MaxDefs {
		x := object("T" + strconv.Itoa(i))
		for _, name := range names("f", api.MaxFields) {
			f := api.Field{Name: name, Type: ref("T"+strconv.Itoa(api.MaxDefs-1), several(api.MaxDepth, func() int { return api.WList })...)}
			for _, arg := range names("a", api.MaxArgs) {
				f.Args = append(f.Args, input(arg, ref("Int")))
			}
			x.Fields = append(x.Fields, f)
		}
		d.Defs = append(d.Defs, x)
	}
	if !sdl.Right(d) {
		t.Error("the document is above the limits")
	}
	checkFaults(t, d, "")
	last := &d.Defs[api.MaxDefs-1].Fields[api.MaxFields-1]
	last.Args[api.MaxArgs-1] = input("a0", ref("T0"))
	checkFaults(t, d, "Twice T63.f63(a0), Type T63.f63(a0)")
}

// Documents can be far above the limits.
func TestCheckLargeDocuments(t *testing.T) {
	r := rand.New(rand.NewSource(5))
	for range 3 {
		d := validDocument(r, 300, 100)
		checkFaults(t, d, "")
		d.Defs[299].Kind = 0
		d.Defs[299].Name = "T1"
		checkFaults(t, d, written(expectedFaults(d, false)))
	}
	const count = 1 << 16
	var d api.Doc
	var x api.Def
	var want []string
	for i := range count {
		d.Defs = append(d.Defs, enum("E", "X"))
		x.Fields = append(x.Fields, api.Field{Name: "f", Type: ref("E")})
		if i > 0 {
			want = append(want, "Twice E")
		}
	}
	checkFaults(t, d, strings.Join(want, ", "))
	checkFaults(t, doc(enum("E", "X"), object("T", x.Fields...)), strings.ReplaceAll(strings.Join(want, ", "), " E", " T.f"))
}
