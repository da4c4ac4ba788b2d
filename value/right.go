package value

import (
	"supergraph/api"
	"supergraph/text"
)

// Right reports whether v is a plain value within the limits.
func Right(v api.Value) bool {
	c := check{room: api.MaxNodes - 1}
	return c.value(v, api.MaxDepth)
}

// Literal reports whether v is a value within the limits that a document can contain.
func Literal(v api.Value) bool {
	c := check{literal: true, room: api.MaxNodes - 1}
	return c.value(v, api.MaxDepth)
}

// A check counts nodes and levels while it descends, instead of calling Size and Depth, so that it
// ends soon for values beyond the limits, even for those whose slices contain themselves.
type check struct {
	literal bool
	room    int // nodes that may still be found
}

func (c *check) value(v api.Value, levels int) bool {
	if levels == 0 || !c.take(len(v.Items)) || !c.node(v) {
		return false
	}
	for _, item := range v.Items {
		if !c.value(item, levels-1) {
			return false
		}
	}
	return true
}

func (c *check) take(nodes int) bool {
	if nodes > c.room {
		return false
	}
	c.room -= nodes
	return true
}

// node checks v without the insides of its items.
func (c *check) node(v api.Value) bool {
	switch v.Kind {
	case api.VNull:
		return v.Int == 0 && v.Text == "" && isLeaf(v)
	case api.VBool:
		return (v.Int == 0 || v.Int == 1) && v.Text == "" && isLeaf(v)
	case api.VInt:
		return v.Text == "" && isLeaf(v)
	case api.VText:
		return v.Int == 0 && isLeaf(v)
	case api.VEnum:
		return v.Int == 0 && isEnumName(v.Text) && isLeaf(v)
	case api.VList:
		return v.Int == 0 && v.Text == "" && len(v.Keys) == 0
	case api.VObject:
		return v.Int == 0 && v.Text == "" && len(v.Keys) == len(v.Items) && c.keys(v.Keys)
	case api.VVar:
		return c.literal && v.Int == 0 && text.Name(v.Text) && isLeaf(v)
	}
	return false
}

func (c *check) keys(keys []string) bool {
	if c.literal {
		for _, key := range keys {
			if !text.Name(key) {
				return false
			}
		}
	}
	return distinct(keys)
}

func isLeaf(v api.Value) bool { return len(v.Items) == 0 && len(v.Keys) == 0 }

// isEnumName excludes the names that documents write for values of other kinds.
func isEnumName(s string) bool {
	switch s {
	case "true", "false", "null":
		return false
	}
	return text.Name(s)
}
