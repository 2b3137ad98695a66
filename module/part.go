package module

import (
	"slices"

	"geode/api"
	"geode/ibin"
	"geode/tbin"
)

// part reads bytes that end where they end, whatever stands behind: a module's, a section's content, a code.
type part struct {
	*tbin.Reader
	bytes []byte // its own, as a Reader's can't be looked at ahead
}

func open(b []byte) *part { return &part{Reader: tbin.Open(b), bytes: b} }

func (p *part) goes() bool {
	e, _ := p.Err()
	return e == api.OK
}

// within reads the next n bytes as a part of p, which meets its error.
func (p *part) within(n int, read func(*part)) {
	from := p.At()
	inner := open(p.Take(n))
	if !p.goes() {
		return
	}
	read(inner)
	e, at := inner.Err()
	p.Fail(e, from+at)
}

// ends meets an error, if bytes are left.
func (p *part) ends() {
	if p.Left() > 0 {
		p.Fail(api.ErrSize, p.At())
	}
}

// size reads how many bytes follow; if they don't, the error is the number's.
func (p *part) size() int {
	at := p.At()
	n := p.U(numberBits)
	if n > uint64(p.Left()) {
		p.Fail(api.ErrEnd, at)
		return 0
	}
	return int(n)
}

func (p *part) index() int { return int(p.U(numberBits)) }

// among reads a byte that must be one of some.
func (p *part) among(some ...byte) byte {
	at := p.At()
	b := p.Byte()
	if !slices.Contains(some, b) {
		p.Fail(api.ErrForm, at)
	}
	return b
}

// may takes the byte b, if it is the next one.
func (p *part) may(b byte) bool {
	if !p.goes() || p.Left() == 0 || p.bytes[p.At()] != b {
		return false
	}
	p.Byte()
	return true
}

func (p *part) expr() []api.Instr { return ibin.Expr(p.Reader) }

// list reads a list's number, and so many things.
func list[T any](p *part, one func(*part) T) []T { return items(p, p.Count(), one) }

// agreed reads a list of which another section says how many things it has.
func agreed[T any](p *part, many int, one func(*part) T) []T {
	at := p.At()
	n := p.Count()
	if n != many {
		p.Fail(api.ErrCount, at)
	}
	return items(p, n, one)
}

// items grows with what is read, as a number alone may be any.
func items[T any](p *part, n int, one func(*part) T) []T {
	var out []T
	for range n {
		x := one(p)
		if !p.goes() {
			return nil
		}
		out = append(out, x)
	}
	return out
}
