package tbin

import (
	"geode/api"
	"geode/leb"
)

// The bytes with which types begin, and those of a field.
const (
	byteI32     = 0x7f
	byteI64     = 0x7e
	byteI8      = 0x78
	byteI16     = 0x77
	byteRef     = 0x64
	byteRefNull = 0x63
	byteFunc    = 0x60
	byteStruct  = 0x5f
	byteArray   = 0x5e
	byteSub     = 0x50
	byteFinal   = 0x4f
	byteGroup   = 0x4e
	byteConst   = 0x00
	byteMut     = 0x01

	byteKnownFirst = 0x7b
	byteKnownLast  = 0x7d
)

const heapBits = 33 // of an index that stands where a heap type's byte may stand, too

// heapFirst is the byte of the first of heapKinds: each one's is one more than that before it.
const heapFirst = 0x69

var heapKinds = [...]api.HeapKind{
	api.HExn, api.HArray, api.HStruct, api.HI31, api.HEq, api.HAny,
	api.HExtern, api.HFunc, api.HNone, api.HNoExtern, api.HNoFunc, api.HNoExn,
}

// Heap reads a heap type.
func (r *Reader) Heap() api.Heap { return item(r, heapAt) }

// Val reads a value type.
func (r *Reader) Val() api.Val {
	switch {
	case r.may(byteI32):
		return api.Val{Kind: api.VI32}
	case r.may(byteI64):
		return api.Val{Kind: api.VI64}
	case r.may(byteRefNull):
		return r.ref(true)
	case r.may(byteRef):
		return r.ref(false)
	}
	return item(r, shortAt)
}

// Vals reads a list of value types.
func (r *Reader) Vals() []api.Val { return list(r, r.Val) }

// Rec reads a group.
func (r *Reader) Rec() []api.Sub {
	if r.may(byteGroup) {
		return list(r, r.sub)
	}
	s := r.sub()
	if !r.goes() {
		return nil
	}
	return []api.Sub{s}
}

// list reads a list's number, and so many things; the list grows with what is read, as a number alone may be any.
func list[T any](r *Reader, one func() T) []T {
	var out []T
	for range r.Count() {
		x := one()
		if !r.goes() {
			return nil
		}
		out = append(out, x)
	}
	return out
}

// may takes the byte b, if it is the next one.
func (r *Reader) may(b byte) bool {
	if !r.goes() || r.Left() == 0 || r.bytes[r.at] != b {
		return false
	}
	r.at++
	return true
}

// ref reads what stands behind a reference's own byte.
func (r *Reader) ref(null bool) api.Val {
	h := r.Heap()
	if !r.goes() {
		return api.Val{}
	}
	return api.Val{Kind: api.VRef, Null: null, Heap: h}
}

func (r *Reader) index() api.Heap {
	return api.Heap{Kind: api.HIndex, N: int(r.U(indexBits))}
}

func (r *Reader) store() api.Store {
	switch {
	case r.may(byteI8):
		return api.Store{Pack: 8, Val: api.Val{Kind: api.VI32}}
	case r.may(byteI16):
		return api.Store{Pack: 16, Val: api.Val{Kind: api.VI32}}
	}
	return api.Store{Val: r.Val()}
}

func (r *Reader) field() api.Field {
	return api.Field{Store: r.store(), Mut: item(r, mutAt)}
}

func (r *Reader) comp() api.Comp {
	switch {
	case r.may(byteFunc):
		return api.Comp{Kind: api.CFunc, Params: r.Vals(), Results: r.Vals()}
	case r.may(byteStruct):
		return api.Comp{Kind: api.CStruct, Fields: list(r, r.field)}
	case r.may(byteArray):
		return api.Comp{Kind: api.CArray, Fields: []api.Field{r.field()}}
	}
	return item(r, noneAt[api.Comp])
}

func (r *Reader) sub() api.Sub {
	s := api.Sub{Final: true}
	switch {
	case r.may(byteSub):
		s.Final = false
		s.Supers = list(r, r.index)
	case r.may(byteFinal):
		s.Supers = list(r, r.index)
	}
	s.Comp = r.comp()
	return s
}

func heapAt(b []byte, at int) (api.Heap, int, api.Errno) {
	if h, ok := given(b, at); ok {
		return h, at + 1, api.OK
	}
	n, next, e := leb.S(b, at, heapBits)
	if e == api.OK && n < 0 {
		e = api.ErrForm
	}
	if e != api.OK {
		return api.Heap{}, 0, e
	}
	return api.Heap{Kind: api.HIndex, N: int(n)}, next, api.OK
}

// shortAt reads a reference that is a heap type's byte alone.
func shortAt(b []byte, at int) (api.Val, int, api.Errno) {
	if h, ok := given(b, at); ok {
		return api.Val{Kind: api.VRef, Null: true, Heap: h}, at + 1, api.OK
	}
	if at < len(b) && byteKnownFirst <= b[at] && b[at] <= byteKnownLast {
		return api.Val{}, 0, api.ErrKnown
	}
	return noneAt[api.Val](b, at)
}

func mutAt(b []byte, at int) (bool, int, api.Errno) {
	if at < len(b) && (b[at] == byteConst || b[at] == byteMut) {
		return b[at] == byteMut, at + 1, api.OK
	}
	return noneAt[bool](b, at)
}

// noneAt refuses a byte that begins nothing of what may stand there.
func noneAt[T any](b []byte, at int) (T, int, api.Errno) {
	var none T
	if at == len(b) {
		return none, 0, api.ErrEnd
	}
	return none, 0, api.ErrForm
}

// given is the heap type of one byte that stands there, if one does.
func given(b []byte, at int) (api.Heap, bool) {
	if at == len(b) || b[at] < heapFirst || int(b[at]) >= heapFirst+len(heapKinds) {
		return api.Heap{}, false
	}
	return api.Heap{Kind: heapKinds[b[at]-heapFirst]}, true
}
