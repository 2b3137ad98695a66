package module

import (
	"slices"

	"geode/api"
	"geode/ibin"
	"geode/leb"
	"geode/tbin"
)

// Put are a module's shortest bytes.
func Put(m api.Module) ([]byte, api.Errno) {
	if !May(m) {
		return nil, api.ErrArg
	}
	out := []byte(magic)
	for _, number := range order {
		if c := putContent(m, number); len(c) > 0 {
			out = append(append(out, number), sized(c)...)
		}
	}
	return out, api.OK
}

// putContent are the bytes of a section's content; none, if it has nothing to say.
func putContent(m api.Module, number byte) []byte {
	switch number {
	case secTypes:
		return putSome(m.Types, putGroup)
	case secImports:
		return putSome(m.Imports, putImport)
	case secFuncs:
		return putSome(m.Funcs, func(f api.Func) []byte { return putNumber(f.Type) })
	case secTables:
		return putSome(m.Tables, putTable)
	case secMems:
		return putSome(m.Mems, putLimits)
	case secTags:
		return putSome(m.Tags, putTag)
	case secGlobals:
		return putSome(m.Globals, putGlobal)
	case secExports:
		return putSome(m.Exports, putExport)
	case secStart:
		if m.Start != noStart {
			return putNumber(m.Start)
		}
	case secElems:
		return putSome(m.Elems, putElem)
	case secCount:
		if needsCount(m.Funcs) {
			return putNumber(len(m.Datas))
		}
	case secCodes:
		return putSome(m.Funcs, putCode)
	case secDatas:
		return putSome(m.Datas, putData)
	}
	return nil
}

// putSome are a section's list, which has none if it is empty.
func putSome[T any](l []T, put func(T) []byte) []byte {
	if len(l) == 0 {
		return nil
	}
	return putList(l, put)
}

func putList[T any](l []T, put func(T) []byte) []byte {
	out := putNumber(len(l))
	for _, x := range l {
		out = append(out, put(x)...)
	}
	return out
}

func putNumber(n int) []byte { return leb.PutU(uint64(n)) }

func sized(b []byte) []byte { return append(putNumber(len(b)), b...) }

// putName is not layer 2's, which puts no name that is too long for it.
func putName(s string) []byte { return append(putNumber(len(s)), s...) }

func putGroup(l []api.Sub) []byte {
	if len(l) == 0 {
		// Layer 6 has no bytes of it, though it is read as such.
		return append([]byte{byteGroup}, putNumber(0)...)
	}
	return tbin.PutRec(l)
}

func putImport(i api.Import) []byte {
	return slices.Concat(putName(i.Module), putName(i.Name), []byte{byte(i.What.Kind)}, putExtern(i.What))
}

// putExtern are the bytes behind that of the kind.
func putExtern(x api.Extern) []byte {
	switch x.Kind {
	case api.ExTable:
		return putTableType(x.Table)
	case api.ExMem:
		return putLimits(x.Mem)
	case api.ExGlobal:
		return putGlobalType(x.Global)
	case api.ExTag:
		return putTag(x.N)
	}
	return putNumber(x.N)
}

func putLimits(l api.Limits) []byte {
	var b byte
	var most []byte
	if l.Wide {
		b |= limitsWide
	}
	if l.HasMax {
		b |= limitsMax
		most = leb.PutU(l.Max)
	}
	return slices.Concat([]byte{b}, leb.PutU(l.Min), most)
}

func putTableType(t api.TableType) []byte { return append(tbin.PutVal(t.Elem), putLimits(t.Limits)...) }

func putGlobalType(g api.GlobalType) []byte {
	if g.Mut {
		return append(tbin.PutVal(g.Val), byteMut)
	}
	return append(tbin.PutVal(g.Val), byteConst)
}

func putTable(t api.Table) []byte {
	if !t.HasInit {
		return putTableType(t.Type)
	}
	return slices.Concat([]byte{byteInit, byteOnly}, putTableType(t.Type), ibin.Put(t.Init))
}

func putTag(n int) []byte { return append([]byte{byteOnly}, putNumber(n)...) }

func putGlobal(g api.Global) []byte { return append(putGlobalType(g.Type), ibin.Put(g.Init)...) }

func putExport(x api.Export) []byte {
	return slices.Concat(putName(x.Name), []byte{byte(x.Kind)}, putNumber(x.N))
}

func putCode(f api.Func) []byte { return sized(append(putList(f.Locals, putRun), ibin.Put(f.Body)...)) }

func putRun(r api.Run) []byte { return append(putNumber(r.N), tbin.PutVal(r.Val)...) }

func putElem(e api.Elem) []byte {
	form := elemForm(e)
	out := []byte{form}
	if form&elemStays == 0 {
		if form&elemTold != 0 {
			out = append(out, putNumber(e.Table)...)
		}
		out = append(out, ibin.Put(e.Offset)...)
	}
	short := form&(elemStays|elemTold) == 0
	if form&elemRows == 0 {
		if !short {
			out = append(out, byteOnly)
		}
		return append(out, putList(e.Inits, func(l []api.Instr) []byte { return putNumber(l[0].X) })...)
	}
	if !short {
		out = append(out, tbin.PutVal(e.Type)...)
	}
	return append(out, putList(e.Inits, ibin.Put)...)
}

// elemForm is the least first byte that elements may have.
func elemForm(e api.Elem) byte {
	funcs := e.Type == refFunc(false) && all(e.Inits, namesFunc)
	var form byte
	if !funcs {
		form = elemRows
	}
	switch e.Mode {
	case api.SegPassive:
		return form | elemStays
	case api.SegDeclared:
		return form | elemStays | elemTold
	}
	if e.Table == 0 && (funcs || e.Type == refFunc(true)) {
		return form
	}
	return form | elemTold
}

func namesFunc(l []api.Instr) bool { return len(l) == 1 && l[0].Op == opRefFunc }

func putData(d api.Data) []byte {
	switch {
	case d.Mode == api.SegPassive:
		return append([]byte{dataStays}, sized(d.Bytes)...)
	case d.Mem == 0:
		return slices.Concat([]byte{dataFirst}, ibin.Put(d.Offset), sized(d.Bytes))
	}
	return slices.Concat([]byte{dataOthers}, putNumber(d.Mem), ibin.Put(d.Offset), sized(d.Bytes))
}
