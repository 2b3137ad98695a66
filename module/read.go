package module

import (
	"bytes"

	"geode/api"
)

// sections are what has been read of a module, section by section.
type sections struct {
	module api.Module
	from   int          // the place of order from which on sections may still stand
	seen   [secAll]bool // by their numbers
	datas  int          // how many section 12 tells
}

// Read is the module of bytes.
func Read(b []byte) (api.Module, api.Errno, int) {
	s := sections{module: api.Module{Start: noStart}}
	p := open(b)
	if !bytes.HasPrefix(b, []byte(magic)) {
		p.Fail(api.ErrMagic, 0)
	}
	p.Take(len(magic))
	for p.goes() && p.Left() > 0 {
		s.section(p)
	}
	s.agree(p)
	if e, at := p.Err(); e != api.OK {
		return api.Module{Start: noStart}, e, at
	}
	return s.module, api.OK, 0
}

// section reads a section.
func (s *sections) section(p *part) {
	at := p.At()
	number := p.Byte()
	if number == secNamed {
		// What stands behind the name is nobody's, and may be anything.
		p.within(p.size(), func(c *part) { c.Name() })
		return
	}
	place := placeOf(number)
	switch {
	case place < 0:
		p.Fail(api.ErrForm, at)
		return
	case place < s.from:
		p.Fail(api.ErrOrder, at)
		return
	}
	s.from = place + 1
	s.seen[number] = true
	read := s.content(number)
	p.within(p.size(), func(c *part) {
		read(c)
		c.ends()
	})
}

// placeOf is the place of a section in order; -1: it has none.
func placeOf(number byte) int {
	for i, n := range order {
		if n == number {
			return i
		}
	}
	return -1
}

// content is what reads the content of a section.
func (s *sections) content(number byte) func(*part) {
	m := &s.module
	switch number {
	case secTypes:
		return func(p *part) { m.Types = list(p, (*part).Rec) }
	case secImports:
		return func(p *part) { m.Imports = list(p, imported) }
	case secFuncs:
		return func(p *part) { m.Funcs = list(p, declared) }
	case secTables:
		return func(p *part) { m.Tables = list(p, table) }
	case secMems:
		return func(p *part) { m.Mems = list(p, limits) }
	case secTags:
		return func(p *part) { m.Tags = list(p, tag) }
	case secGlobals:
		return func(p *part) { m.Globals = list(p, global) }
	case secExports:
		return func(p *part) { m.Exports = list(p, export) }
	case secStart:
		return func(p *part) { m.Start = p.index() }
	case secElems:
		return func(p *part) { m.Elems = list(p, elem) }
	case secCount:
		return func(p *part) { s.datas = p.index() }
	case secCodes:
		return s.codes
	}
	return func(p *part) {
		if s.seen[secCount] {
			m.Datas = agreed(p, s.datas, data)
		} else {
			m.Datas = list(p, data)
		}
	}
}

// codes reads what stands in the functions that are declared already.
func (s *sections) codes(p *part) {
	f := s.module.Funcs
	for i, c := range agreed(p, len(f), code) {
		f[i].Locals, f[i].Body = c.Locals, c.Body
	}
}

// agree holds sections against each other of which one may be wanting.
func (s *sections) agree(p *part) {
	switch {
	case len(s.module.Funcs) > 0 && !s.seen[secCodes],
		s.datas > 0 && !s.seen[secDatas],
		needsCount(s.module.Funcs) && !s.seen[secCount]:
		p.Fail(api.ErrCount, p.At())
	}
}
