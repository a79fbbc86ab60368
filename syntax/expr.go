package syntax

import "acequia/api"

func (p *parser) expr() api.Expr {
	x := p.term()
	switch {
	case p.take("+"):
		return operation(api.AddX, x, p.term())
	case p.take("-"):
		return operation(api.SubX, x, p.term())
	}
	return x
}

func (p *parser) term() api.Expr {
	x := p.factor()
	switch {
	case p.take("*"):
		return operation(api.MulX, x, p.factor())
	case p.take("/"):
		return operation(api.DivX, x, p.factor())
	}
	return x
}

func operation(op int, a, b api.Expr) api.Expr {
	return api.Expr{Op: op, Args: []api.Expr{a, b}}
}

func (p *parser) factor() api.Expr {
	switch {
	case p.isNumber():
		return api.Expr{Op: api.NumX, N: p.number(), Unit: p.unit()}
	case p.is("("):
		return p.group()
	}
	return api.Expr{Op: api.LetX, Let: api.Ref{Name: p.name()}}
}

// group reads an expression in parentheses. A pair too many is wrong from its beginning on, since a factor has to follow.
func (p *parser) group() api.Expr {
	if p.nest == api.MaxNest {
		p.fail()
	}
	p.require("(")
	p.nest++
	x := p.expr()
	p.nest--
	p.require(")")
	return x
}

func (p *parser) unit() int {
	for u, text := range units {
		if u != api.NoneU && p.take(text) {
			return u
		}
	}
	return api.NoneU
}

// units are the words for units, by their numbers.
var units = [6]string{api.NoneU: "", api.LitreU: "l", api.CubicU: "m3", api.HourU: "h", api.DayU: "d", api.AreU: "a"}
