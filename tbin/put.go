package tbin

import (
	"slices"

	"geode/api"
	"geode/kind"
	"geode/leb"
)

// PutHeap are a heap type's bytes.
func PutHeap(h api.Heap) []byte {
	if !kind.PlainVal(api.Val{Kind: api.VRef, Heap: h}) {
		return nil
	}
	return putHeap(h)
}

// PutVal are a value type's bytes.
func PutVal(v api.Val) []byte {
	if !kind.PlainVal(v) {
		return nil
	}
	return putVal(v)
}

// PutVals are a list's bytes.
func PutVals(l []api.Val) []byte {
	if !all(l, kind.PlainVal) {
		return nil
	}
	return putList(l, putVal)
}

// PutRec are a group's bytes.
func PutRec(l []api.Sub) []byte {
	switch {
	case len(l) == 0 || !all(l, kind.PlainSub):
		return nil
	case len(l) == 1:
		return putSub(l[0])
	}
	return append([]byte{byteGroup}, putList(l, putSub)...)
}

func all[T any](l []T, holds func(T) bool) bool {
	return !slices.ContainsFunc(l, func(x T) bool { return !holds(x) })
}

func putList[T any](l []T, put func(T) []byte) []byte {
	out := leb.PutU(uint64(len(l)))
	for _, x := range l {
		out = append(out, put(x)...)
	}
	return out
}

func putHeap(h api.Heap) []byte {
	for i, k := range heapKinds {
		if k == h.Kind {
			return []byte{byte(heapFirst + i)}
		}
	}
	return leb.PutS(int64(h.N))
}

func putVal(v api.Val) []byte {
	switch v.Kind {
	case api.VI32:
		return []byte{byteI32}
	case api.VI64:
		return []byte{byteI64}
	}
	heap := putHeap(v.Heap)
	switch {
	case !v.Null:
		return append([]byte{byteRef}, heap...)
	case v.Heap.Kind == api.HIndex:
		return append([]byte{byteRefNull}, heap...)
	}
	return heap
}

func putIndex(h api.Heap) []byte { return leb.PutU(uint64(h.N)) }

func putStore(s api.Store) []byte {
	switch s.Pack {
	case 8:
		return []byte{byteI8}
	case 16:
		return []byte{byteI16}
	}
	return putVal(s.Val)
}

func putField(f api.Field) []byte {
	if f.Mut {
		return append(putStore(f.Store), byteMut)
	}
	return append(putStore(f.Store), byteConst)
}

func putComp(c api.Comp) []byte {
	switch c.Kind {
	case api.CFunc:
		return append(append([]byte{byteFunc}, putList(c.Params, putVal)...), putList(c.Results, putVal)...)
	case api.CStruct:
		return append([]byte{byteStruct}, putList(c.Fields, putField)...)
	}
	// An array has one field, and so no number of them.
	return append([]byte{byteArray}, putField(c.Fields[0])...)
}

func putSub(s api.Sub) []byte {
	var head []byte
	switch {
	case !s.Final:
		head = append([]byte{byteSub}, putList(s.Supers, putIndex)...)
	case len(s.Supers) > 0:
		head = append([]byte{byteFinal}, putList(s.Supers, putIndex)...)
	}
	return append(head, putComp(s.Comp)...)
}
