package kind

import (
	"iter"

	"geode/api"
)

// Heaps goes over all heap types of a declared type.
func Heaps(s api.Sub) iter.Seq[api.Heap] {
	// What is gone over later must not hang on lists that are the caller's.
	own := fresh(s)
	return func(yield func(api.Heap) bool) {
		for h := range places(&own) {
			if !yield(*h) {
				return
			}
		}
	}
}

// Map is a declared type with other heap types.
func Map(s api.Sub, f func(api.Heap) api.Heap) api.Sub {
	own := fresh(s)
	for h := range places(&own) {
		*h = f(*h)
	}
	return own
}

// MapVal is a value type with another heap type.
func MapVal(v api.Val, f func(api.Heap) api.Heap) api.Val {
	if v.Kind == api.VRef {
		v.Heap = f(v.Heap)
	}
	return v
}

// fresh is a declared type whose lists are its own, the empty ones, too, which a clone would let lie where they were.
func fresh(s api.Sub) api.Sub {
	s.Supers = append([]api.Heap(nil), s.Supers...)
	s.Comp.Params = append([]api.Val(nil), s.Comp.Params...)
	s.Comp.Results = append([]api.Val(nil), s.Comp.Results...)
	s.Comp.Fields = append([]api.Field(nil), s.Comp.Fields...)
	return s
}

// places goes over where the heap types of s stand, in the order of its writing: they are read there, and set.
func places(s *api.Sub) iter.Seq[*api.Heap] {
	return func(yield func(*api.Heap) bool) {
		for i := range s.Supers {
			if !yield(&s.Supers[i]) {
				return
			}
		}
		for v := range vals(&s.Comp) {
			if v.Kind == api.VRef && !yield(&v.Heap) {
				return
			}
		}
	}
}

// vals goes over where value types stand, the kind of c aside: a type that is not plain may have more than its kind has.
func vals(c *api.Comp) iter.Seq[*api.Val] {
	return func(yield func(*api.Val) bool) {
		for i := range c.Params {
			if !yield(&c.Params[i]) {
				return
			}
		}
		for i := range c.Results {
			if !yield(&c.Results[i]) {
				return
			}
		}
		for i := range c.Fields {
			if !yield(&c.Fields[i].Store.Val) {
				return
			}
		}
	}
}
