package schema

import "supergraph/api"

// Check returns the violations of the rules of schemas; whole says that the type Query is needed.
func Check(d api.Doc, whole bool) []api.Fault {
	c := checker{defs: d.Defs, first: map[string]int{}}
	for i, t := range d.Defs {
		if _, isTaken := c.first[t.Name]; !isTaken {
			c.first[t.Name] = i
		}
	}
	c.loops = loops(c.defs, c.first)
	for i, t := range d.Defs {
		c.checkDefinition(i, t)
	}
	query := position{kind: ofType, name: Root(api.OQuery)}
	_, isFound := c.first[query.name]
	c.report(whole && !isFound, api.ErrRoot, query)
	return c.faults
}

// A checker finds definitions by their names without a search: documents can be far above the limits.
type checker struct {
	defs   []api.Def
	first  map[string]int // the index of the first definition with a name
	loops  []bool         // which definitions are input types that contain themselves
	faults []api.Fault
}

func (c *checker) report(isBroken bool, code api.Errno, p position) {
	if isBroken {
		c.faults = append(c.faults, api.Fault{Err: code, At: p.at()})
	}
}

func (c *checker) checkDefinition(i int, t api.Def) {
	p := position{kind: ofType, name: t.Name}
	c.checkName(p, Scalar(t.Name) || c.first[t.Name] < i)
	c.report(isEmpty(t), api.ErrNone, p)
	c.report(!isKind(t.Kind) || isRoot(t.Name) && t.Kind != api.DObject, api.ErrKind, p)
	c.report(c.loops[i], api.ErrDepth, p)
	switch t.Kind {
	case api.DObject, api.DInterface:
		c.checkFields(t)
	case api.DEnum:
		c.checkMembers(t)
	case api.DInput:
		c.checkInputs(ofInput, t.Name, t.Inputs)
	}
}

func isKind(kind int) bool { return api.DObject <= kind && kind <= api.DInput }

func isRoot(name string) bool {
	return name == Root(api.OQuery) || name == Root(api.OMutation) || name == Root(api.OSubscription)
}

// isEmpty reports whether the list is empty that the kind of t asks for.
func isEmpty(t api.Def) bool {
	switch t.Kind {
	case api.DObject, api.DInterface:
		return len(t.Fields) == 0
	case api.DUnion, api.DEnum:
		return len(t.Members) == 0
	case api.DInput:
		return len(t.Inputs) == 0
	}
	return false
}

func (c *checker) checkFields(t api.Def) {
	taken := map[string]bool{}
	for _, f := range t.Fields {
		p := position{kind: ofField, within: t.Name, name: f.Name}
		c.checkName(p, taken[f.Name])
		c.checkType(p, f.Type.Name)
		c.checkInputs(ofArgument, p.at(), f.Args)
		taken[f.Name] = true
	}
}

// checkInputs checks the arguments of a field, or the fields of an input type.
func (c *checker) checkInputs(kind int, within string, l []api.Input) {
	taken := map[string]bool{}
	for _, x := range l {
		p := position{kind: kind, within: within, name: x.Name}
		c.checkName(p, taken[x.Name])
		c.checkType(p, x.Type.Name)
		taken[x.Name] = true
	}
}

func (c *checker) checkMembers(t api.Def) {
	taken := map[string]bool{}
	for _, m := range t.Members {
		c.checkName(position{kind: ofMember, within: t.Name, name: m.Name}, taken[m.Name])
		taken[m.Name] = true
	}
}

func (c *checker) checkName(p position, isTaken bool) {
	c.report(!p.isNamed(), api.ErrName, p)
	c.report(isTaken, api.ErrTwice, p)
}

func (c *checker) checkType(p position, name string) {
	// The name of a scalar type means this type also where a definition has taken it, which rule 1 reports.
	if Scalar(name) {
		return
	}
	i, isDefined := c.first[name]
	c.report(!isDefined, api.ErrNone, p)
	c.report(isDefined && !p.accepts(c.defs[i].Kind), api.ErrType, p)
}
