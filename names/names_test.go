package names

import (
	"reflect"
	"slices"
	"strings"
	"testing"

	"acequia/api"
	"acequia/syntax"
)

const vega = `district vega ; season 30 d ; reservoir 5000 m3 holds big ;
let q = 40 l / 1 h ; let big = ( q + q ) * 9 h ;
crop vine needs 3 m3 / 10 a ; crop corn needs 3 m3 / 10 a ;
reach head delay 2 h capacity q bank 100 m3 evaporation 0 l to 10 l seepage 0 to 1 / 10 ;
reach mid from head delay 2 h capacity q bank 100 m3 evaporation 0 l to 10 l seepage 0 to 1 / 10 ;
reach low from mid delay 0 h capacity q bank 50 m3 siphon 1 l evaporation 0 l to 1 l seepage 0 to 1 / 10 ;
farm east on low area 20 a crop corn ; farm west on head river ;
rotation dula on low rank 2 flow q from 0 h to 10 d { turn west for 6 h ; turn east for 1 h ; }
take t1 of west rank 1 flow q from 1 d to 2 d ; own mine of west reach mid ; easement way of east reach low from 0 h to 30 d ;
duty clean of west reach low by 5 d ;`

func source(t *testing.T) api.Source {
	t.Helper()
	s, at, e := syntax.Parse(vega)
	if e != api.OK {
		t.Fatalf("error %d at %d", e, at)
	}
	return s
}

func resolved(t *testing.T, s api.Source) api.Source {
	t.Helper()
	x, e := Resolve(s)
	if e != api.OK {
		t.Fatalf("Resolve: %d", e)
	}
	return x
}

// P17.1 and P17.3: every reference gets its index, and the argument does not change.
func TestResolve(t *testing.T) {
	s := source(t)
	x := resolved(t, s)
	for i, y := range []struct {
		ref  api.Ref
		want int
	}{
		{x.Start.Let, 1}, {x.Lets[1].Value.Args[0].Args[1].Let, 0}, {x.Reaches[1].From, 0}, {x.Reaches[2].From, 1}, {x.Reaches[2].Cap.Let, 0}, {x.Farms[0].On, 2}, {x.Farms[0].Crop, 1}, {x.Farms[1].On, 0},
		{x.Rotations[0].On, 2}, {x.Rotations[0].Turns[0].Farm, 1}, {x.Rotations[0].Turns[1].Farm, 0}, {x.Rights[0].Farm, 1}, {x.Rights[1].Reach, 1}, {x.Rights[2].Farm, 0}, {x.Rights[2].Reach, 2}, {x.Duties[0].Farm, 1}, {x.Duties[0].Reach, 2},
	} {
		if y.ref.N != y.want || y.ref.Name == "" {
			t.Errorf("reference %d is %v", i, y.ref)
		}
	}
	if !reflect.DeepEqual(s, source(t)) {
		t.Error("the argument has changed")
	}
	for ref := range references(&x) {
		ref.N = 0
	}
	if !reflect.DeepEqual(x, s) {
		t.Error("more than the N of references has changed")
	}
}

func nested(n int) api.Expr {
	x := api.Expr{Op: api.NumX}
	for range n {
		x = api.Expr{Op: api.MulX, Args: []api.Expr{x, {Op: api.NumX}}}
	}
	return x
}

type change struct {
	do   func(s *api.Source)
	want api.Errno
}

func limits() []change {
	many := func(n int) func(s *api.Source) { return func(s *api.Source) { s.Lets = make([]api.LetDecl, n) } }
	return []change{
		{many(65), api.ErrLimit}, {many(64), api.ErrName}, {func(s *api.Source) { s.Crops = make([]api.CropDecl, 33) }, api.ErrLimit}, {func(s *api.Source) { s.Reaches = make([]api.ReachDecl, 65) }, api.ErrLimit},
		{func(s *api.Source) { s.Farms = make([]api.FarmDecl, 601) }, api.ErrLimit}, {func(s *api.Source) { s.Rotations = make([]api.Rotation, 65) }, api.ErrLimit}, {func(s *api.Source) { s.Rights = make([]api.RightDecl, 257) }, api.ErrLimit},
		{func(s *api.Source) { s.Duties = make([]api.DutyDecl, 257) }, api.ErrLimit}, {func(s *api.Source) { s.Rotations[0].Turns = make([]api.TurnDecl, 65) }, api.ErrLimit}, {func(s *api.Source) { s.Name, s.Season = "", nested(9) }, api.ErrLimit},
		{func(s *api.Source) { s.Farms[1].Area = nested(60000) }, api.ErrLimit}, {func(s *api.Source) { s.Season = nested(8) }, api.OK}, {func(s *api.Source) { s.Season.Args = []api.Expr{nested(8)} }, api.ErrLimit},
	}
}

func names() []change {
	long := strings.Repeat("a", 33)
	return []change{
		{func(s *api.Source) { s.Name = "" }, api.ErrName}, {func(s *api.Source) { s.Name = "river" }, api.ErrName}, {func(s *api.Source) { s.Name = long }, api.ErrName}, {func(s *api.Source) { s.Duties[0].Name = "m3" }, api.ErrName},
		{func(s *api.Source) { s.Rotations[0].Name = "1" }, api.ErrName}, {func(s *api.Source) { s.Rights[0].Name = "by" }, api.ErrName}, {func(s *api.Source) { s.Crops[0].Name = "a b" }, api.ErrName},
		{func(s *api.Source) { s.Crops[1].Name = "vine" }, api.ErrTwice}, {func(s *api.Source) { s.Rights[1].Name = "dula" }, api.ErrTwice}, {func(s *api.Source) { s.Lets[1].Name = "q" }, api.ErrTwice}, {func(s *api.Source) { s.Farms[1].Name = "east" }, api.ErrTwice},
		{func(s *api.Source) { s.Duties = append(s.Duties, s.Duties[0]) }, api.ErrTwice}, {func(s *api.Source) { s.Reaches[2].Name = "head" }, api.ErrTwice}, {func(s *api.Source) { s.Crops[1].Name, s.Name = "vine", "d" }, api.ErrName},
		{func(s *api.Source) { s.Crops[1].Name, s.Rights[0].Kind = "vine", 9 }, api.ErrTwice}, {func(s *api.Source) { s.Name, s.Duties[0].Name = "vine", "east" }, api.OK},
	}
}

func shapes() []change {
	num := api.Expr{Op: api.NumX}
	return []change{
		{func(s *api.Source) { s.Season.Op = 7 }, api.ErrName}, {func(s *api.Source) { s.Season.Op = 0 }, api.ErrName}, {func(s *api.Source) { s.Season = api.Expr{} }, api.OK}, {func(s *api.Source) { s.Season = api.Expr{Let: api.Ref{N: 1}} }, api.ErrName},
		{func(s *api.Source) { s.Season = api.Expr{Op: api.AddX, Args: []api.Expr{num}} }, api.ErrName}, {func(s *api.Source) { s.Season = api.Expr{Op: api.AddX, Args: []api.Expr{num, {}}} }, api.ErrName}, {func(s *api.Source) { s.Season.Args = []api.Expr{num} }, api.ErrName},
		{func(s *api.Source) { s.Season.Let.Name = "q" }, api.ErrName}, {func(s *api.Source) { s.Season.Let.N = 1 }, api.ErrName}, {func(s *api.Source) { s.Rights[0].Kind = 0 }, api.ErrName}, {func(s *api.Source) { s.Rights[0].Kind = 4 }, api.ErrName},
		{func(s *api.Source) { s.Reaches[0].From.Name = "head" }, api.ErrName}, {func(s *api.Source) { s.Reaches[0].From.N = 1 }, api.ErrName}, {func(s *api.Source) { s.Farms[1].Crop.Name = "vine" }, api.ErrName}, {func(s *api.Source) { s.Rights[0].Reach.Name = "low" }, api.ErrName},
		{func(s *api.Source) { s.Reaches[1].From.Name = "mid" }, api.ErrName}, {func(s *api.Source) { s.Reaches[1].From.Name = "low" }, api.ErrName}, {func(s *api.Source) { s.Reaches[1].From.Name = "" }, api.ErrName}, {func(s *api.Source) { s.Reaches[2].From.Name = "head" }, api.OK},
		{func(s *api.Source) { s.Lets[1].Value.Args[0].Args[0].Let.Name = "big" }, api.ErrName}, {func(s *api.Source) { s.Lets[0].Value = api.Expr{Op: api.LetX, Let: api.Ref{Name: "big"}} }, api.ErrName}, {func(s *api.Source) { s.Farms[0].On.Name = "east" }, api.ErrName},
		{func(s *api.Source) { s.Duties[0].Farm.Name = "low" }, api.ErrName}, {func(s *api.Source) { s.Duties[0].Reach.Name = "" }, api.ErrName}, {func(s *api.Source) { s.Rotations[0].Turns[1].Farm.Name = "vega" }, api.ErrName}, {func(s *api.Source) { s.Farms[0].On.N = -5 }, api.OK},
	}
}

// P17.1: the errors, in their order.
func TestResolveErrors(t *testing.T) {
	if x, e := Resolve(api.Source{}); e != api.ErrName || !reflect.DeepEqual(x, api.Source{}) {
		t.Error("the zero source")
	}
	if x, e := Resolve(api.Source{Name: "vega"}); e != api.OK || !reflect.DeepEqual(x, api.Source{Name: "vega"}) {
		t.Error("a source without declarations")
	}
	for k, l := range [][]change{limits(), names(), shapes()} {
		for i, c := range l {
			s := source(t)
			c.do(&s)
			x, e := Resolve(s)
			if e != c.want || e != api.OK && !reflect.DeepEqual(x, api.Source{}) {
				t.Errorf("change %d of list %d: %d, want %d", i, k, e, c.want)
			}
			if f := Check(s); e != api.OK && f != e {
				t.Errorf("change %d of list %d: Check returns %d", i, k, f)
			}
		}
	}
}

// P17.2 and P17.5: what is resolved stays so; each wrong N is found.
func TestCheck(t *testing.T) {
	s := source(t)
	if Check(s) != api.ErrName {
		t.Error("a source that is not resolved")
	}
	x := resolved(t, s)
	if Check(x) != api.OK || !reflect.DeepEqual(resolved(t, x), x) {
		t.Error("a resolved source")
	}
	for ref := range references(&x) {
		ref.N++
		if Check(x) != api.ErrName {
			t.Errorf("%v is accepted", ref)
		}
		ref.N--
	}
	x.Duties = nil
	x.Rights = x.Rights[:2]
	if Check(x) != api.OK {
		t.Error("without a duty and a right")
	}
}

// P17.4: names do not matter.
func TestRenaming(t *testing.T) {
	renamed := resolved(t, source(t))
	for _, name := range []string{"q", "big", "corn", "head", "low", "east", "west"} {
		src := strings.ReplaceAll(vega, " "+name+" ", " other ")
		s, _, e := syntax.Parse(src)
		if e != api.OK {
			t.Fatalf("the name %s: %d", name, e)
		}
		x := resolved(t, s)
		var a, b []int
		for ref := range references(&x) {
			a = append(a, ref.N)
		}
		for ref := range references(&renamed) {
			b = append(b, ref.N)
		}
		if !slices.Equal(a, b) {
			t.Errorf("the name %s", name)
		}
	}
}
