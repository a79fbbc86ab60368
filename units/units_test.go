package units

import (
	"math/rand"
	"strconv"
	"strings"
	"testing"

	"acequia/api"
	"acequia/names"
	"acequia/syntax"
)

const vega = `district vega ; season 30 d ; reservoir 5000 m3 holds 3 * big ;
let q = 40 l / 1 h ; let big = ( q + q ) * 9 h ; let bad = 1 l + 1 h ; let worse = bad * 2 ; let zero = 1 / 0 ;
crop vine needs 3 m3 / 10 a ;
reach head delay 2 h capacity q bank 100 m3 evaporation 0 l to 10 l seepage 0 to 1 / 10 ;
reach low from head delay 0 h capacity 3 m3 / 1 d bank big siphon 1 l evaporation 0 l to 1 l seepage 1 / 20 to 1 / 10 ;
farm east on low area 20 a crop vine ; farm west on head river ;
rotation dula on low rank 2 flow q from 0 h to 10 d { turn west for 6 h ; turn east for 1 h ; }
take t1 of west rank 1 flow q from 1 d to 2 d every 12 h for 3 h ; take t2 of west rank 1 flow q from 1 d to 2 d ;
own mine of west reach low ; easement way of east reach low from 0 h to 30 d ;
duty clean of west reach low by 5 d ;`

// good leaves out the constants that have no dimension.
func good() string {
	return strings.Replace(vega, "let bad = 1 l + 1 h ; let worse = bad * 2 ;", "", 1)
}

func source(t *testing.T, src string) api.Source {
	t.Helper()
	s, at, e := syntax.Parse(src)
	if e != api.OK {
		t.Fatalf("error %d at %d", e, at)
	}
	x, e := names.Resolve(s)
	if e != api.OK {
		t.Fatalf("Resolve: %d", e)
	}
	return x
}

// expr returns an expression of vega.
func expr(t *testing.T, text string) api.Expr {
	t.Helper()
	s := source(t, strings.Replace(vega, "crop vine", "let probe = "+text+" ; crop vine", 1))
	return s.Lets[len(s.Lets)-1].Value
}

// P18.1: dimensions and values.
func TestTypeAndValue(t *testing.T) {
	s := source(t, vega)
	for text, x := range map[string]struct {
		d  api.Dim
		e  api.Errno
		v  api.Ratio
		ve api.Errno
	}{
		"5":                                 {api.Dim{}, 0, api.Ratio{N: 5, D: 1}, 0},
		"3 m3 / 2 h":                        {api.Dim{Litres: 1, Hours: -1}, 0, api.Ratio{N: 1500, D: 1}, 0},
		"3 l + 4 h":                         {api.Dim{}, api.ErrUnit, api.Ratio{}, api.ErrUnit},
		"( 3 l * 4 h ) / 2 h":               {api.Dim{Litres: 1}, 0, api.Ratio{N: 6, D: 1}, 0},
		"1 d - 30 h":                        {api.Dim{Hours: 1}, 0, api.Ratio{N: -6, D: 1}, 0},
		"1 / 0":                             {api.Dim{}, 0, api.Ratio{}, api.ErrRatio},
		"1073741825":                        {api.Dim{}, 0, api.Ratio{}, api.ErrLimit},
		"1073741824 a":                      {api.Dim{Ares: 1}, 0, api.Ratio{N: 1 << 30, D: 1}, 0},
		"1099511627776 m3":                  {api.Dim{Litres: 1}, 0, api.Ratio{}, api.ErrLimit},
		"1073741825 / 0":                    {api.Dim{}, 0, api.Ratio{}, api.ErrLimit},
		"zero + 1073741825":                 {api.Dim{}, 0, api.Ratio{}, api.ErrRatio},
		"1073741825 + zero":                 {api.Dim{}, 0, api.Ratio{}, api.ErrLimit},
		"big":                               {api.Dim{Litres: 1}, 0, api.Ratio{N: 720, D: 1}, 0},
		"bad":                               {api.Dim{}, api.ErrUnit, api.Ratio{}, api.ErrUnit},
		"worse":                             {api.Dim{}, api.ErrUnit, api.Ratio{}, api.ErrUnit},
		"7 h / 3 d":                         {api.Dim{}, 0, api.Ratio{N: 7, D: 72}, 0},
		"(2 l*2 l)*(2 l*2 l)":               {api.Dim{Litres: 4}, 0, api.Ratio{N: 16, D: 1}, 0},
		"1 h/((2 h*2 h)*(2 h*2 h))":         {api.Dim{Hours: -3}, 0, api.Ratio{N: 1, D: 16}, 0},
		"1 l*((2 l*2 l)*(2 l*2 l))":         {api.Dim{}, api.ErrUnit, api.Ratio{}, api.ErrUnit},
		"(1 / 2 h) / ((2 h*2 h)*(2 h*2 h))": {api.Dim{}, api.ErrUnit, api.Ratio{}, api.ErrUnit},
	} {
		y := expr(t, text)
		if d, e := Type(s, y); d != x.d || e != x.e {
			t.Errorf("Type of %s = %v, %d", text, d, e)
		}
		if v, e := Value(s, y); v != x.v || e != x.ve {
			t.Errorf("Value of %s = %v, %d", text, v, e)
		}
	}
}

func num(n, unit int) api.Expr { return api.Expr{Op: api.NumX, N: n, Unit: unit} }

func operation(op int, a, b api.Expr) api.Expr { return api.Expr{Op: op, Args: []api.Expr{a, b}} }

func nested(n int) api.Expr {
	x := num(1, 0)
	for range n {
		x = operation(api.MulX, num(1, 0), x)
	}
	return x
}

// P18.1: expressions that are not valid for a source.
func TestNotValid(t *testing.T) {
	s := source(t, vega)
	let := func(name string, n int) api.Expr { return api.Expr{Op: api.LetX, Let: api.Ref{Name: name, N: n}} }
	for i, x := range []api.Expr{
		{}, {Op: 7}, {Op: -1}, num(-1, 0), num(1<<40+1, 0), num(1, 6), num(1, -1), let("q", 1), let("q", -1), let("q", 9), let("", 0), let("head", 0), {Op: api.LetX, N: 1, Let: api.Ref{Name: "q"}},
		{Op: api.NumX, Let: api.Ref{Name: "q"}}, {Op: api.NumX, Args: []api.Expr{num(1, 0)}}, {Op: api.AddX, Args: []api.Expr{num(1, 0)}}, operation(api.AddX, num(1, 0), api.Expr{}), nested(9), nested(60000),
		{Op: api.MulX, N: 1, Args: []api.Expr{num(1, 0), num(1, 0)}}, {Op: api.MulX, Let: api.Ref{N: 1}, Args: []api.Expr{num(1, 0), num(1, 0)}}, {Op: api.AddX, Args: []api.Expr{num(1, 0), num(1, 0), num(1, 0)}},
	} {
		d, e := Type(s, x)
		v, f := Value(s, x)
		if e != api.ErrUnit || f != api.ErrUnit || d != (api.Dim{}) || v != (api.Ratio{}) {
			t.Errorf("expression %d: %d, %d", i, e, f)
		}
	}
	if _, e := Type(s, nested(8)); e != api.OK {
		t.Error("the greatest depth")
	}
	if _, e := Type(s, let("q", 0)); e != api.OK {
		t.Error("a constant")
	}
	s.Reaches[1].From.N = 1
	_, e := Type(s, num(1, 0))
	_, f := Value(s, num(1, 0))
	if e != api.ErrName || f != api.ErrName || Check(s) != api.ErrName {
		t.Error("a source that is not resolved")
	}
}

// P18.1: constants are evaluated once, however often they are used.
func TestManyConstants(t *testing.T) {
	s := api.Source{Name: "w", Lets: []api.LetDecl{{Name: "x0", Value: num(0, api.LitreU)}}}
	for i := range 63 {
		x := api.Expr{Op: api.LetX, Let: api.Ref{Name: s.Lets[i].Name, N: i}}
		s.Lets = append(s.Lets, api.LetDecl{Name: "x" + strconv.Itoa(i+1), Value: operation(api.AddX, x, x)})
	}
	if v, e := Value(s, api.Expr{Op: api.LetX, Let: api.Ref{Name: s.Lets[63].Name, N: 63}}); e != api.OK || v != (api.Ratio{D: 1}) {
		t.Errorf("%v, %d", v, e)
	}
}

// P18.2: what each expression of a declaration needs.
func TestCheck(t *testing.T) {
	if e := Check(source(t, good())); e != api.OK {
		t.Fatalf("Check: %d", e)
	}
	if e := Check(source(t, vega)); e != api.ErrUnit {
		t.Errorf("constants without a dimension: %d", e)
	}
	for _, x := range []struct{ old, new string }{
		{"season 30 d", "season 30"}, {"reservoir 5000 m3", "reservoir 5000 h"}, {"holds 3 * big", "holds q"}, {"needs 3 m3 / 10 a", "needs 3 m3"}, {"delay 2 h", "delay 2 l"}, {"capacity q", "capacity 40 l"}, {"bank 100 m3", "bank q"},
		{"siphon 1 l", "siphon 1"}, {"evaporation 0 l", "evaporation 0"}, {"to 10 l seepage", "to 10 h seepage"}, {"seepage 0", "seepage 0 l"}, {"seepage 1 / 20 to 1 / 10", "seepage 1 / 20 to 1 l"}, {"area 20 a", "area 20"},
		{"2 flow q", "2 flow 3 l"}, {"flow q from 0 h", "flow q from 0"}, {"to 10 d {", "to 10 a {"}, {"for 6 h", "for 6"}, {"1 flow q", "1 flow 1 h"}, {"from 1 d to", "from 1 to"}, {"to 2 d", "to 2 l"}, {"every 12 h", "every 12"}, {"for 3 h", "for 3"},
		{"low from 0 h to 30 d", "low from 0 l to 30 d"}, {"to 30 d", "to 30"}, {"by 5 d", "by 5"},
	} {
		if e := Check(source(t, strings.Replace(good(), x.old, x.new, 1))); e != api.ErrUnit {
			t.Errorf("%q: %d", x.new, e)
		}
	}
	for i, x := range []struct {
		change func(s *api.Source)
		want   api.Errno
	}{
		{func(s *api.Source) { s.Season = api.Expr{} }, api.ErrUnit}, {func(s *api.Source) { s.Reaches[1].Siphon = api.Expr{} }, api.OK}, {func(s *api.Source) { s.Reaches[0].Seep[0] = api.Expr{} }, api.ErrUnit}, {func(s *api.Source) { s.Farms[1].Area = num(1, api.AreU) }, api.ErrUnit},
		{func(s *api.Source) { s.Rights[0].Every = api.Expr{} }, api.ErrUnit}, {func(s *api.Source) { s.Rights[0].Length = api.Expr{} }, api.ErrUnit}, {func(s *api.Source) { s.Rights[2].Flow = s.Rights[0].Flow }, api.ErrUnit}, {func(s *api.Source) { s.Rights[2].From = num(1, api.HourU) }, api.ErrUnit},
		{func(s *api.Source) { s.Rights[3].Every = num(1, api.HourU) }, api.ErrUnit}, {func(s *api.Source) { s.Rights[3].To = api.Expr{} }, api.ErrUnit}, {func(s *api.Source) { s.Duties[0].Due = api.Expr{} }, api.ErrUnit}, {func(s *api.Source) { s.Lets[2].Value = api.Expr{} }, api.ErrUnit},
		{func(s *api.Source) { s.Season.N = -1 }, api.ErrUnit}, {func(s *api.Source) { s.Season.Unit = 9 }, api.ErrUnit},
	} {
		s := source(t, good())
		x.change(&s)
		if e := Check(s); e != x.want {
			t.Errorf("change %d: %d", i, e)
		}
	}
	if e := Check(api.Source{}); e != api.ErrName {
		t.Error("the zero source")
	}
}

// random returns an expression without constants.
func random(r *rand.Rand, deep int) api.Expr {
	if deep == 0 || r.Intn(4) == 0 {
		return num(1+r.Intn(9), r.Intn(6))
	}
	return operation(api.AddX+r.Intn(4), random(r, deep-1), random(r, deep-1))
}

// scaled multiplies numbers by the factor of their base unit.
func scaled(x api.Expr, factors dimension) api.Expr {
	if x.Op == api.NumX {
		for i, n := range units[x.Unit].dim {
			if n == 1 {
				x.N *= factors[i]
			}
		}
	}
	args := x.Args
	x.Args = nil
	for _, a := range args {
		x.Args = append(x.Args, scaled(a, factors))
	}
	return x
}

// P18.3 and P18.5: other base units, and exchanged arguments.
func TestUnitsOfMeasure(t *testing.T) {
	r := rand.New(rand.NewSource(18))
	s := api.Source{Name: "w"}
	typed := 0
	for range 20000 {
		x := random(r, 3)
		factors := dimension{1 + r.Intn(3), 1 + r.Intn(3), 1 + r.Intn(3)}
		y := scaled(x, factors)
		d, e := Type(s, x)
		if d2, e2 := Type(s, y); d2 != d || e2 != e {
			t.Fatalf("the dimension of %v", x)
		}
		v, e := Value(s, x)
		w, f := Value(s, y)
		if e != api.OK || f != api.OK {
			continue
		}
		typed++
		up, down := 1, 1
		for i, n := range [3]int{d.Litres, d.Hours, d.Ares} {
			for range max(n, -n) {
				if n > 0 {
					up *= factors[i]
				} else {
					down *= factors[i]
				}
			}
		}
		if v.N*up*w.D != w.N*v.D*down {
			t.Fatalf("%v is worth %v, and scaled %v", x, v, w)
		}
		if x.Op == api.AddX || x.Op == api.MulX {
			if u, e := Value(s, operation(x.Op, x.Args[1], x.Args[0])); e != api.OK || u != v {
				t.Fatalf("%v with exchanged arguments", x)
			}
		}
	}
	if typed < 1000 {
		t.Errorf("only %d expressions have values", typed)
	}
}

// P18.4: a constant stands for its Value.
func TestSubstitution(t *testing.T) {
	s := source(t, vega)
	for i, let := range s.Lets {
		x := api.Expr{Op: api.LetX, Let: api.Ref{Name: let.Name, N: i}}
		for _, op := range []int{api.AddX, api.SubX, api.MulX, api.DivX} {
			a, b := operation(op, x, num(2, api.LitreU)), operation(op, let.Value, num(2, api.LitreU))
			d1, e1 := Type(s, a)
			d2, e2 := Type(s, b)
			v1, f1 := Value(s, a)
			v2, f2 := Value(s, b)
			if d1 != d2 || e1 != e2 || v1 != v2 || f1 != f2 {
				t.Errorf("the constant %s", let.Name)
			}
		}
	}
}
