package queryprint

import "supergraph/api"

// used returns the fragments that selections use, directly or indirectly: of those with a name, the first one.
func used(l []api.Sel, all []api.Frag) []api.Frag {
	f := finder{left: map[string]api.Frag{}}
	for _, x := range all {
		if _, isRepeated := f.left[x.Name]; !isRepeated {
			f.left[x.Name] = x
		}
	}
	f.follow(l)
	return f.found
}

// A finder moves each fragment that is used from left to found, so that it follows its selections only once.
type finder struct {
	left  map[string]api.Frag
	found []api.Frag
}

func (f *finder) follow(l []api.Sel) {
	for _, s := range l {
		if x, isLeft := f.left[s.Name]; isLeft && s.Kind == api.SSpread {
			delete(f.left, s.Name)
			f.found = append(f.found, x)
			f.follow(x.Sels)
		}
		f.follow(s.Sels)
	}
}
