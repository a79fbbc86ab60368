// Package syntax parses and prints sources of districts. See shared/doc/16-syntax.md.
package syntax

import (
	"acequia/api"
	"acequia/lex"
	"acequia/words"
)

// parser reads tokens. Nest counts the parentheses around the next token.
type parser struct {
	tokens []api.Token
	end    int // the place after the last token
	nest   int
}

// place is the panic of a parser: where the first wrong token begins.
type place int

// Parse returns the Source of a source.
func Parse(src string) (s api.Source, at int, e api.Errno) {
	l, at, e := lex.Lex(src)
	if e != api.OK {
		return s, at, e
	}
	defer func() {
		if x, ok := recover().(place); ok {
			s, at, e = api.Source{}, int(x), api.ErrSyntax
		}
	}()
	p := &parser{tokens: l, end: len(src)}
	return p.source(), 0, api.OK
}

func (p *parser) fail() {
	if len(p.tokens) == 0 {
		panic(place(p.end))
	}
	panic(place(p.tokens[0].At))
}

// is reports whether the next token is a word or a sign. (The texts of numbers are empty.)
func (p *parser) is(text string) bool {
	return len(p.tokens) > 0 && p.tokens[0].Text == text
}

// take reads a word or a sign, if it is next.
func (p *parser) take(text string) bool {
	if !p.is(text) {
		return false
	}
	p.tokens = p.tokens[1:]
	return true
}

func (p *parser) require(text string) {
	if !p.take(text) {
		p.fail()
	}
}

func (p *parser) isNumber() bool {
	return len(p.tokens) > 0 && p.tokens[0].Kind == api.NumberT
}

func (p *parser) number() int {
	if !p.isNumber() {
		p.fail()
	}
	n := p.tokens[0].N
	p.tokens = p.tokens[1:]
	return n
}

func (p *parser) name() string {
	if len(p.tokens) == 0 || p.tokens[0].Kind != api.NameT || words.Is(p.tokens[0].Text) {
		p.fail()
	}
	s := p.tokens[0].Text
	p.tokens = p.tokens[1:]
	return s
}

// nameAfter and the following ones read a word and what comes after it.
func (p *parser) nameAfter(word string) string {
	p.require(word)
	return p.name()
}

func (p *parser) refAfter(word string) api.Ref { return api.Ref{Name: p.nameAfter(word)} }

func (p *parser) numberAfter(word string) int {
	p.require(word)
	return p.number()
}

func (p *parser) exprAfter(word string) api.Expr {
	p.require(word)
	return p.expr()
}

func (p *parser) pairAfter(word string) [2]api.Expr {
	return [2]api.Expr{p.exprAfter(word), p.exprAfter("to")}
}

// declarations reads declarations as long as one begins.
func declarations[T any](begins func() bool, read func() T) (l []T) {
	for begins() {
		l = append(l, read())
	}
	return l
}

// any returns a condition: one of some words is next.
func (p *parser) any(words ...string) func() bool {
	return func() bool {
		for _, w := range words {
			if p.is(w) {
				return true
			}
		}
		return false
	}
}

func (p *parser) source() (s api.Source) {
	s.Name = p.nameAfter("district")
	p.require(";")
	s.Season = p.exprAfter("season")
	p.require(";")
	s.Cap, s.Start = p.exprAfter("reservoir"), p.exprAfter("holds")
	p.require(";")
	s.Lets = declarations(p.any("let"), p.let)
	s.Crops = declarations(p.any("crop"), p.crop)
	s.Reaches = declarations(p.any("reach"), p.reach)
	s.Farms = declarations(p.any("farm"), p.farm)
	s.Rotations = declarations(p.any("rotation"), p.rotation)
	s.Rights = declarations(p.any("take", "own", "easement"), p.right)
	s.Duties = declarations(p.any("duty"), p.duty)
	if len(p.tokens) > 0 {
		p.fail()
	}
	return s
}

func (p *parser) let() api.LetDecl {
	x := api.LetDecl{Name: p.nameAfter("let"), Value: p.exprAfter("=")}
	p.require(";")
	return x
}

func (p *parser) crop() api.CropDecl {
	x := api.CropDecl{Name: p.nameAfter("crop"), Need: p.exprAfter("needs")}
	p.require(";")
	return x
}

func (p *parser) reach() (x api.ReachDecl) {
	x.Name = p.nameAfter("reach")
	if p.is("from") {
		x.From = p.refAfter("from")
	}
	x.Delay, x.Cap, x.Bank = p.exprAfter("delay"), p.exprAfter("capacity"), p.exprAfter("bank")
	if p.is("siphon") {
		x.Siphon = p.exprAfter("siphon")
	}
	x.Evap, x.Seep = p.pairAfter("evaporation"), p.pairAfter("seepage")
	p.require(";")
	return x
}

func (p *parser) farm() (x api.FarmDecl) {
	x.Name, x.On = p.nameAfter("farm"), p.refAfter("on")
	if x.River = p.take("river"); !x.River {
		x.Area, x.Crop = p.exprAfter("area"), p.refAfter("crop")
	}
	p.require(";")
	return x
}

func (p *parser) rotation() (x api.Rotation) {
	x.Name, x.On, x.Rank = p.nameAfter("rotation"), p.refAfter("on"), p.numberAfter("rank")
	x.Flow, x.From, x.To = p.exprAfter("flow"), p.exprAfter("from"), p.exprAfter("to")
	p.require("{")
	x.Turns = declarations(p.any("turn"), p.turn)
	p.require("}")
	return x
}

func (p *parser) turn() api.TurnDecl {
	x := api.TurnDecl{Farm: p.refAfter("turn"), Length: p.exprAfter("for")}
	p.require(";")
	return x
}

func (p *parser) right() (x api.RightDecl) {
	switch {
	case p.is("take"):
		x = p.takeRight()
	case p.is("own"):
		x = api.RightDecl{Kind: api.OwnR, Name: p.nameAfter("own"), Farm: p.refAfter("of"), Reach: p.refAfter("reach")}
	default:
		x = api.RightDecl{Kind: api.EaseR, Name: p.nameAfter("easement"), Farm: p.refAfter("of"), Reach: p.refAfter("reach")}
		x.From, x.To = p.exprAfter("from"), p.exprAfter("to")
	}
	p.require(";")
	return x
}

func (p *parser) takeRight() api.RightDecl {
	x := api.RightDecl{Kind: api.TakeR, Name: p.nameAfter("take"), Farm: p.refAfter("of"), Rank: p.numberAfter("rank")}
	x.Flow, x.From, x.To = p.exprAfter("flow"), p.exprAfter("from"), p.exprAfter("to")
	if p.is("every") {
		x.Every, x.Length = p.exprAfter("every"), p.exprAfter("for")
	}
	return x
}

func (p *parser) duty() api.DutyDecl {
	x := api.DutyDecl{Name: p.nameAfter("duty"), Farm: p.refAfter("of"), Reach: p.refAfter("reach"), Due: p.exprAfter("by")}
	p.require(";")
	return x
}
