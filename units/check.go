package units

import (
	"iter"

	"acequia/api"
	"acequia/names"
)

// Ways in which an expression may stand in a declaration.
const (
	required = iota
	optional
	forbidden
)

// need is what an expression of a declaration needs.
type need struct {
	way int
	dim dimension
}

func hours() need   { return need{dim: dimension{0, 1, 0}} }
func litres() need  { return need{dim: dimension{1, 0, 0}} }
func flow() need    { return need{dim: dimension{1, -1, 0}} }
func plain() need   { return need{} }
func leftOut() need { return need{way: forbidden} }
func isZero(x api.Expr) bool {
	return x.Op == 0 && x.N == 0 && x.Unit == 0 && x.Let == api.Ref{} && len(x.Args) == 0
}

// Check reports whether the expressions of a source have the dimensions that they need.
func Check(s api.Source) (e api.Errno) {
	if e = names.Check(s); e != api.OK {
		return e
	}
	v := evaluatorOf(s)
	for _, q := range v.constants {
		if !q.typed {
			return api.ErrUnit
		}
	}
	for x, n := range expressions(s) {
		if isZero(x) {
			if n.way == required {
				return api.ErrUnit
			}
			continue
		}
		q := v.quantity(x)
		if n.way == forbidden || !q.typed || q.dim != n.dim {
			return api.ErrUnit
		}
	}
	return api.OK
}

// entry is an expression with what it needs.
type entry struct {
	x api.Expr
	n need
}

// expressions yields the expressions of all declarations but the constants, with what they need.
func expressions(s api.Source) iter.Seq2[api.Expr, need] {
	return func(yield func(api.Expr, need) bool) {
		for _, group := range [][]entry{head(s), reaches(s), farms(s), rotations(s), rights(s)} {
			for _, y := range group {
				if !yield(y.x, y.n) {
					return
				}
			}
		}
	}
}

func head(s api.Source) []entry {
	l := []entry{{s.Season, hours()}, {s.Cap, litres()}, {s.Start, litres()}}
	for _, c := range s.Crops {
		l = append(l, entry{c.Need, need{dim: dimension{1, 0, -1}}})
	}
	for _, d := range s.Duties {
		l = append(l, entry{d.Due, hours()})
	}
	return l
}

func reaches(s api.Source) (l []entry) {
	for _, r := range s.Reaches {
		siphon := litres()
		siphon.way = optional
		l = append(l, entry{r.Delay, hours()}, entry{r.Cap, flow()}, entry{r.Bank, litres()}, entry{r.Siphon, siphon})
		l = append(l, entry{r.Evap[0], litres()}, entry{r.Evap[1], litres()}, entry{r.Seep[0], plain()}, entry{r.Seep[1], plain()})
	}
	return l
}

func farms(s api.Source) (l []entry) {
	for _, f := range s.Farms {
		area := need{dim: dimension{0, 0, 1}}
		if f.River {
			area = leftOut()
		}
		l = append(l, entry{f.Area, area})
	}
	return l
}

func rotations(s api.Source) (l []entry) {
	for _, r := range s.Rotations {
		l = append(l, entry{r.Flow, flow()}, entry{r.From, hours()}, entry{r.To, hours()})
		for _, t := range r.Turns {
			l = append(l, entry{t.Length, hours()})
		}
	}
	return l
}

func rights(s api.Source) (l []entry) {
	for _, r := range s.Rights {
		litres, ends, again := leftOut(), leftOut(), leftOut()
		switch r.Kind {
		case api.TakeR:
			litres, ends, again = flow(), hours(), hours()
			if isZero(r.Every) && isZero(r.Length) {
				again = leftOut()
			}
		case api.EaseR:
			ends = hours()
		}
		l = append(l, entry{r.Flow, litres}, entry{r.From, ends}, entry{r.To, ends}, entry{r.Every, again}, entry{r.Length, again})
	}
	return l
}
