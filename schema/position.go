package schema

import (
	"supergraph/api"
	"supergraph/text"
)

// Kinds of positions.
const (
	ofType = iota
	ofField
	ofArgument
	ofMember
	ofInput
)

// A position is where a schema introduces a name: its kind, the place of what the name belongs to
// ("" for a type), and the name.
type position struct {
	kind   int
	within string
	name   string
}

// at returns the place of the violations at p.
func (p position) at() string {
	switch p.kind {
	case ofType:
		return p.name
	case ofArgument:
		return p.within + "(" + p.name + ")"
	}
	return p.within + "." + p.name
}

// isNamed reports whether the name is allowed at p. As values, true, false and null are no members.
func (p position) isNamed() bool {
	if p.kind == ofMember && (p.name == "true" || p.name == "false" || p.name == "null") {
		return false
	}
	return text.Name(p.name) && !text.Reserved(p.name)
}

// accepts reports whether what is at p can have a type whose definition has this kind.
func (p position) accepts(kind int) bool {
	if p.kind == ofField {
		return kind != api.DInput
	}
	return kind == api.DEnum || kind == api.DInput
}
