package value

import (
	"cmp"
	"slices"
	"sort"
	"strings"

	"supergraph/api"
)

// Same reports whether a and b do not differ.
func Same(a, b api.Value) bool { return Compare(a, b) == 0 }

// Compare returns -1, 0 or 1 for a value a that is smaller than b, equal to it, or greater.
func Compare(a, b api.Value) int {
	order := cmp.Compare(a.Kind, b.Kind)
kinds:
	switch a.Kind {
	case b.Kind:
		order = cmp.Or(cmp.Compare(a.Int, b.Int), strings.Compare(a.Text, b.Text))
		if order != 0 {
			break kinds
		}
		for i := range max(len(a.Items), len(b.Items)) {
			order = compareElements(a, b, i)
			if order != 0 {
				break kinds
			}
		}
	}
	return order
}

// compareElements compares the elements with the index i, of which one value may have none.
func compareElements(a, b api.Value, i int) int {
	if i >= len(a.Items) {
		return -1
	}
	if i >= len(b.Items) {
		return 1
	}
	order := strings.Compare(keyAt(a, i), keyAt(b, i))
	if order != 0 {
		return order
	}
	return Compare(a.Items[i], b.Items[i])
}

func keyAt(v api.Value, i int) string {
	if i < len(v.Keys) {
		return v.Keys[i]
	}
	return ""
}

// Copy returns a value that equals v and shares no memory with it.
func Copy(v api.Value) api.Value {
	v.Keys = slices.Clone(v.Keys)
	v.Items = slices.Clone(v.Items)
	for i, item := range v.Items {
		v.Items[i] = Copy(item)
	}
	return v
}

// Sort returns a copy of v whose objects have ascending keys, at every level.
func Sort(v api.Value) api.Value {
	sorted := Copy(v)
	sortInPlace(sorted)
	return sorted
}

func sortInPlace(v api.Value) {
	for _, item := range v.Items {
		sortInPlace(item)
	}
	if v.Kind == api.VObject && len(v.Keys) == len(v.Items) {
		sort.Stable(byKey(v))
	}
}

// byKey moves each key of an object together with its item.
type byKey api.Value

func (o byKey) Len() int           { return len(o.Keys) }
func (o byKey) Less(i, k int) bool { return o.Keys[i] < o.Keys[k] }

func (o byKey) Swap(i, k int) {
	o.Keys[i], o.Keys[k] = o.Keys[k], o.Keys[i]
	o.Items[i], o.Items[k] = o.Items[k], o.Items[i]
}
