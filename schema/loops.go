package schema

import (
	"slices"

	"supergraph/api"
)

// loops reports which definitions are input types that contain themselves; first has the index of
// the first definition with each name.
func loops(defs []api.Def, first map[string]int) []bool {
	next := contents(defs, first)
	group := groups(next)
	loop := make([]bool, len(defs))
	for i, t := range defs {
		if first[t.Name] == i {
			loop[i] = slices.ContainsFunc(next[i], func(k int) bool { return group[k] == group[i] })
		} else {
			// No field leads to a definition whose name is taken, only to the first one with this name.
			loop[i] = leads(next, i, first[t.Name])
		}
	}
	return loop
}

// contents returns for each definition those that all its values contain: the types of those input
// fields that are neither null nor lists.
func contents(defs []api.Def, first map[string]int) [][]int {
	next := make([][]int, len(defs))
	for i, t := range defs {
		if t.Kind != api.DInput {
			continue
		}
		for _, x := range t.Inputs {
			if k, isDefined := first[x.Type.Name]; isDefined && slices.Equal(x.Type.Wraps, []int{api.WNonNull}) {
				next[i] = append(next[i], k)
			}
		}
	}
	return next
}

// leads reports whether one or more steps lead from a definition to another one.
func leads(next [][]int, from, to int) bool {
	isFound := false
	seen := map[int]bool{}
	walk(next, from, func(i int) bool {
		isFound = isFound || i == to
		isNew := !seen[i]
		seen[i] = true
		return isNew && !isFound
	})
	return isFound
}

// groups numbers the definitions: two have the same number if each of them leads to the other one.
// It needs time only for each step once (Kosaraju's algorithm), where a search from each definition
// would need the square of it.
func groups(next [][]int) []int {
	before := reversed(next)
	group := make([]int, len(next))
	number := 0
	for _, last := range slices.Backward(finished(next)) {
		number++
		walk(before, last, func(i int) bool {
			isNew := group[i] == 0
			if isNew {
				group[i] = number
			}
			return isNew
		})
	}
	return group
}

func reversed(next [][]int) [][]int {
	before := make([][]int, len(next))
	for i, l := range next {
		for _, k := range l {
			before[k] = append(before[k], i)
		}
	}
	return before
}

// walk calls visit for a definition, and, where visit returns true, for all that a step leads to.
func walk(next [][]int, start int, visit func(i int) bool) {
	todo := []int{start}
	for len(todo) > 0 {
		i := todo[len(todo)-1]
		todo = todo[:len(todo)-1]
		if visit(i) {
			todo = append(todo, next[i]...)
		}
	}
}

// finished returns the definitions in the order in which a search in depth leaves them. It needs no
// recursion: the number ^i waits below all that i leads to.
func finished(next [][]int) []int {
	var order []int
	seen := make([]bool, len(next))
	for start := range next {
		todo := []int{start}
		for len(todo) > 0 {
			i := todo[len(todo)-1]
			todo = todo[:len(todo)-1]
			if i < 0 {
				order = append(order, ^i)
			} else if !seen[i] {
				seen[i] = true
				todo = append(append(todo, ^i), next[i]...)
			}
		}
	}
	return order
}
