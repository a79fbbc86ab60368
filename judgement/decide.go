package judgement

import (
	"slices"

	"acequia/api"
	"acequia/pleas"
	"acequia/precedents"
)

// Decide decides a suit.
func Decide(b api.Cases, s api.Suit) (c api.Case, e api.Errno) {
	if e = precedents.Check(b); e != api.OK {
		return c, e
	}
	answer, e := pleas.Answer(s.Plea, s.Question)
	if e != api.OK {
		return c, e
	}
	bound := [2]bool{}
	for side := range bound {
		if _, bound[side], e = precedents.Binds(b, s.Facts, side); e != api.OK {
			return c, e
		}
	}
	last := api.Case{No: -1}
	if len(b.Cases) > 0 {
		last = b.Cases[len(b.Cases)-1]
	}
	if s.No <= last.No || s.No > api.MaxId || s.Hour < last.Hour || s.Hour > api.MaxHours {
		return c, api.ErrCase
	}
	c = api.Case{No: s.No, Hour: s.Hour, Facts: slices.Clone(s.Facts)}
	if !bound[0] && (bound[1] || answer != api.ProvedA) {
		c.Winner = 1
	}
	for _, n := range s.Facts {
		if b.Sides[n] == c.Winner {
			c.Reason = append(c.Reason, n)
		}
	}
	return c, api.OK
}

// Sit decides suits one after the other.
func Sit(b api.Cases, l []api.Suit) (x api.Cases, e api.Errno) {
	defer func() {
		if r := recover(); r != nil {
			x, e = api.Cases{}, stopped(r)
		}
	}()
	e = precedents.Check(b)
	require(e == api.OK, e)
	x = api.Cases{Sides: b.Sides, Cases: slices.Clone(b.Cases)}
	for _, s := range l {
		c, e := Decide(x, s)
		require(e == api.OK, e)
		x.Cases = append(x.Cases, c)
		require(len(x.Cases) <= api.MaxCases, api.ErrLimit)
	}
	return x, api.OK
}
