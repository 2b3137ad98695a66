package ibin

import (
	"geode/api"
	"geode/ops"
	"geode/tbin"
)

// Expr reads an expression.
func Expr(r *tbin.Reader) []api.Instr {
	var l []api.Instr
	var open nest
row:
	for {
		at := r.At()
		i := instr(r)
		switch {
		case !goes(r):
			return nil
		case i.Op == opEnd && len(open) == 0:
			break row
		case !open.take(i.Op):
			r.Fail(api.ErrForm, at)
			return nil
		}
		l = append(l, i)
	}
	return l
}

func goes(r *tbin.Reader) bool {
	e, _ := r.Err()
	return e == api.OK
}

// instr reads an instruction; of what can't be read the reader knows, and what is told then is nothing's.
func instr(r *tbin.Reader) api.Instr {
	i := api.Instr{Op: opcode(r)}
	switch ops.Shape(i.Op) {
	case api.ShBlock:
		i.Block = block(r)
	case api.ShTry:
		i.Block = block(r)
		i.Catches = list(r, catch)
	case api.ShLabel, api.ShIndex:
		i.X = number(r)
	case api.ShTable:
		i.Labels = list(r, number)
		i.X = number(r)
	case api.ShTwo:
		i.X = number(r)
		i.Y = number(r)
	case api.ShMem:
		i.X, i.Y = aligned(r)
		i.U = r.U(64)
	case api.ShI32:
		i.U = uint64(uint32(r.S(32)))
	case api.ShI64:
		i.U = uint64(r.S(64))
	case api.ShHeap:
		i.Heap = r.Heap()
	case api.ShTypes:
		i.Types = r.Vals()
	case api.ShCast:
		i.Null, i.Null2 = nulls(r)
		i.X = number(r)
		i.Heap = r.Heap()
		i.Heap2 = r.Heap()
	}
	return i
}

func opcode(r *tbin.Reader) api.Op {
	at := r.At()
	op := api.Op(r.Byte())
	if op == prefixThings || op == prefixBulk {
		n := r.U(indexBits)
		if n >= 1<<prefixPlaces {
			// It would run into the prefix, and make an opcode that is another's.
			r.Fail(api.ErrForm, at)
			return 0
		}
		op = op<<prefixPlaces | api.Op(n)
	}
	switch {
	case ops.Known(op):
		r.Fail(api.ErrKnown, at)
	case ops.Shape(op) == 0:
		r.Fail(api.ErrForm, at)
	}
	return op
}

// number reads an index.
func number(r *tbin.Reader) int { return int(r.U(indexBits)) }

// list reads a list's number, and so many things; the list grows with what is read, as a number alone may be any.
func list[T any](r *tbin.Reader, one func(*tbin.Reader) T) []T {
	var out []T
	for range r.Count() {
		x := one(r)
		if !goes(r) {
			return nil
		}
		out = append(out, x)
	}
	return out
}

// aligned reads how a ShMem is aligned, and its memory.
func aligned(r *tbin.Reader) (int, int) {
	at := r.At()
	x := number(r)
	switch {
	case x > otherMem+maxAlign:
		r.Fail(api.ErrForm, at)
		return 0, 0
	case x >= otherMem:
		return x - otherMem, number(r)
	}
	return x, 0
}

// block reads a block's type as a number: each byte that may stand there instead is one below 0.
func block(r *tbin.Reader) api.Block {
	at := r.At()
	n := r.S(blockBits)
	switch {
	case n >= 0:
		return api.Block{Kind: blockIndex, N: int(n)}
	case r.At() != at+1:
		r.Fail(api.ErrForm, at)
		return api.Block{}
	}
	b := byte(n) & byteOwn
	if b == byteBlockNone {
		return api.Block{}
	}
	return api.Block{Kind: blockVal, Val: val(r, b, at)}
}

// val reads the value type whose first byte, b, has been read already, at at.
func val(r *tbin.Reader, b byte, at int) api.Val {
	if b == byteRef || b == byteRefNull {
		return api.Val{Kind: api.VRef, Null: b == byteRefNull, Heap: r.Heap()}
	}
	alone := tbin.Open([]byte{b})
	v := alone.Val()
	e, _ := alone.Err()
	r.Fail(e, at)
	return v
}

func catch(r *tbin.Reader) api.Catch {
	at := r.At()
	c := api.Catch{Kind: int(r.Byte())}
	switch c.Kind {
	case catchTag, catchTagRef:
		c.Tag = number(r)
	case catchAll, catchAllRef:
	default:
		r.Fail(api.ErrForm, at)
	}
	c.Label = number(r)
	return c
}

// nulls reads which of a ShCast's references may be null.
func nulls(r *tbin.Reader) (bool, bool) {
	at := r.At()
	b := r.Byte()
	if b > castNull|castNull2 {
		r.Fail(api.ErrForm, at)
	}
	return b&castNull != 0, b&castNull2 != 0
}
