package ibin

import (
	"slices"

	"geode/api"
	"geode/leb"
	"geode/ops"
	"geode/tbin"
)

// Put are an expression's bytes.
func Put(l []api.Instr) []byte {
	if !all(l, May) || !Nested(l) {
		return nil
	}
	var out []byte
	for _, i := range l {
		out = append(append(out, putOp(i.Op)...), putRest(i)...)
	}
	return append(out, opEnd)
}

func putOp(op api.Op) []byte {
	prefix, n := op>>prefixPlaces, op&(1<<prefixPlaces-1)
	if prefix == 0 {
		return []byte{byte(n)}
	}
	return append([]byte{byte(prefix)}, leb.PutU(uint64(n))...)
}

// putRest are the bytes behind an instruction's opcode.
func putRest(i api.Instr) []byte {
	var ahead, behind []byte
	switch ops.Shape(i.Op) {
	case api.ShTry:
		behind = putList(i.Catches, putCatch)
		fallthrough
	case api.ShBlock:
		return append(putBlock(i.Block), behind...)
	case api.ShTable:
		ahead = putList(i.Labels, putNumber)
		fallthrough
	case api.ShLabel:
		return append(ahead, putNumber(i.X)...)
	case api.ShTwo:
		behind = putNumber(i.Y)
		fallthrough
	case api.ShIndex:
		return append(putNumber(i.X), behind...)
	case api.ShCast:
		ahead = append([]byte{nullsByte(i)}, putNumber(i.X)...)
		behind = tbin.PutHeap(i.Heap2)
		fallthrough
	case api.ShHeap:
		return slices.Concat(ahead, tbin.PutHeap(i.Heap), behind)
	case api.ShMem:
		return append(putAligned(i.X, i.Y), leb.PutU(i.U)...)
	case api.ShI32:
		return leb.PutS(int64(int32(i.U)))
	case api.ShI64:
		return leb.PutS(int64(i.U))
	case api.ShTypes:
		return tbin.PutVals(i.Types)
	}
	return nil
}

func putNumber(n int) []byte { return leb.PutU(uint64(n)) }

func putList[T any](l []T, put func(T) []byte) []byte {
	out := putNumber(len(l))
	for _, x := range l {
		out = append(out, put(x)...)
	}
	return out
}

// putAligned tells the memory only where it is not the first one.
func putAligned(x, y int) []byte {
	if y == 0 {
		return putNumber(x)
	}
	return append(putNumber(x+otherMem), putNumber(y)...)
}

func putBlock(b api.Block) []byte {
	switch b.Kind {
	case blockVal:
		return tbin.PutVal(b.Val)
	case blockIndex:
		return leb.PutS(int64(b.N))
	}
	return []byte{byteBlockNone}
}

func putCatch(c api.Catch) []byte {
	out := []byte{byte(c.Kind)}
	if c.Kind == catchTag || c.Kind == catchTagRef {
		out = append(out, putNumber(c.Tag)...)
	}
	return append(out, putNumber(c.Label)...)
}

func nullsByte(i api.Instr) byte {
	var b byte
	if i.Null {
		b |= castNull
	}
	if i.Null2 {
		b |= castNull2
	}
	return b
}
