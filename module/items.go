package module

import "geode/api"

// What is read of a part that has met an error is nothing's: the part knows, and who asks for a list of it looks.

func imported(p *part) api.Import {
	return api.Import{Module: p.Name(), Name: p.Name(), What: extern(p)}
}

func extern(p *part) api.Extern {
	x := api.Extern{Kind: exKind(p)}
	switch x.Kind {
	case api.ExFunc:
		x.N = p.index()
	case api.ExTable:
		x.Table = tableType(p)
	case api.ExMem:
		x.Mem = limits(p)
	case api.ExGlobal:
		x.Global = globalType(p)
	case api.ExTag:
		x.N = tag(p)
	}
	return x
}

func exKind(p *part) api.ExKind { return api.ExKind(p.among(0, 1, 2, 3, 4)) }

func limits(p *part) api.Limits {
	b := p.among(0, limitsMax, limitsWide, limitsWide|limitsMax)
	l := api.Limits{Wide: b&limitsWide != 0, Min: p.U(limitBits), HasMax: b&limitsMax != 0}
	if l.HasMax {
		l.Max = p.U(limitBits)
	}
	return l
}

// ref reads a value type that must be a reference.
func ref(p *part) api.Val {
	at := p.At()
	v := p.Val()
	if v.Kind != api.VRef {
		p.Fail(api.ErrForm, at)
	}
	return v
}

func tableType(p *part) api.TableType {
	return api.TableType{Elem: ref(p), Limits: limits(p)}
}

func globalType(p *part) api.GlobalType {
	return api.GlobalType{Val: p.Val(), Mut: p.among(byteConst, byteMut) == byteMut}
}

// declared reads a function without its code, which stands elsewhere.
func declared(p *part) api.Func { return api.Func{Type: p.index()} }

func table(p *part) api.Table {
	if !p.may(byteInit) {
		return api.Table{Type: tableType(p)}
	}
	p.among(byteOnly)
	return api.Table{Type: tableType(p), HasInit: true, Init: p.expr()}
}

func tag(p *part) int {
	p.among(byteOnly)
	return p.index()
}

func global(p *part) api.Global {
	return api.Global{Type: globalType(p), Init: p.expr()}
}

func export(p *part) api.Export {
	return api.Export{Name: p.Name(), Kind: exKind(p), N: p.index()}
}

func elem(p *part) api.Elem {
	form := p.among(0, 1, 2, 3, 4, 5, 6, 7)
	var e api.Elem
	switch form &^ elemRows {
	case elemTold:
		e.Table = p.index()
		fallthrough
	case 0:
		e.Mode = api.SegActive
		e.Offset = p.expr()
	case elemStays | elemTold:
		e.Mode = api.SegDeclared
	}
	short := form&(elemStays|elemTold) == 0
	if form&elemRows == 0 {
		if !short {
			p.among(byteOnly)
		}
		e.Type = refFunc(false)
		e.Inits = list(p, funcInit)
		return e
	}
	e.Type = refFunc(true)
	if !short {
		e.Type = ref(p)
	}
	e.Inits = list(p, (*part).expr)
	return e
}

// funcInit reads a function's index, which stands for an expression.
func funcInit(p *part) []api.Instr { return []api.Instr{{Op: opRefFunc, X: p.index()}} }

func data(p *part) api.Data {
	var d api.Data
	switch p.among(dataFirst, dataStays, dataOthers) {
	case dataOthers:
		d.Mem = p.index()
		fallthrough
	case dataFirst:
		d.Mode = api.SegActive
		d.Offset = p.expr()
	}
	d.Bytes = p.Take(p.size())
	return d
}

// code reads what a function has beside its type.
func code(p *part) api.Func {
	var f api.Func
	p.within(p.size(), func(c *part) {
		at := c.At()
		f.Locals = list(c, run)
		if !fewEnough(f.Locals) {
			c.Fail(api.ErrWide, at)
		}
		f.Body = c.expr()
		c.ends()
	})
	return f
}

func run(p *part) api.Run { return api.Run{N: p.index(), Val: p.Val()} }
