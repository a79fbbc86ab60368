package expand

import (
	"reflect"
	"strings"
	"testing"

	"acequia/api"
	"acequia/names"
	"acequia/syntax"
)

const vega = `district vega ; season 5 d ; reservoir 5000 m3 holds 3 * big ;
let q = 40 l / 1 h ; let big = ( q + q ) * 9 h ; let half = 1 / 2 ;
crop vine needs 3 m3 / 10 a ;
reach head delay 2 h capacity q bank 1 m3 evaporation 0 l to 10 l seepage 0 to 1 / 10 ;
reach low from head delay 1 h capacity 2 m3 / 10 h bank big siphon 3 l evaporation 1 l to 1 l seepage half / 2 to half ;
farm east on low area 20 a crop vine ; farm west on low river ;
rotation dula on low rank 2 flow q from 2 h to 4 d { turn west for 3 h ; turn east for 1 h ; turn west for 2 h ; }
take t1 of west rank 1 flow 5 l / 1 h from 1 d to 2 d every 12 h for 3 h ; take t2 of east rank 0 flow q from 1 d to 2 d ;
own mine of west reach low ; easement way of east reach head from 4 h to 3 d ;
duty clean of west reach low by 5 d ;`

func source(t *testing.T, src string) api.Source {
	t.Helper()
	s, at, e := syntax.Parse(src)
	if e != api.OK {
		t.Fatalf("error %d at %d of %s", e, at, src)
	}
	x, e := names.Resolve(s)
	if e != api.OK {
		t.Fatalf("Resolve: %d", e)
	}
	return x
}

func expanded(t *testing.T, src string) api.District {
	t.Helper()
	d, e := Expand(source(t, src))
	if e != api.OK {
		t.Fatalf("Expand: %d", e)
	}
	return d
}

// P19.1: the district, field by field.
func TestExpand(t *testing.T) {
	r := func(n, d int) api.Ratio { return api.Ratio{N: n, D: d} }
	want := api.District{
		Name: "vega", Hours: 120, Tank: api.Tank{Cap: 5000000, Start: 2160}, Crops: []api.Crop{{Name: "vine", Need: 300}},
		Reaches: []api.Reach{
			{Name: "head", Up: -1, Delay: 2, Cap: 40, Bank: 1000, Evap: api.Range{Hi: 10}, Seep: [2]api.Ratio{r(0, 1), r(1, 10)}},
			{Name: "low", Up: 0, Delay: 1, Cap: 200, Bank: 720, Siphon: 3, Evap: api.Range{Lo: 1, Hi: 1}, Seep: [2]api.Ratio{r(1, 4), r(1, 2)}},
		},
		Farms: []api.Farm{{Name: "east", Reach: 1, Area: 20}, {Name: "west", Reach: 1, Crop: -1}},
		Rights: []api.Right{
			{Name: "dula", Kind: api.TakeR, Farm: 1, Rank: 2, Litres: 40, From: 2, To: 96, Every: 6, Length: 3}, {Name: "dula", Kind: api.TakeR, Farm: 0, Rank: 2, Litres: 40, From: 5, To: 96, Every: 6, Length: 1},
			{Name: "dula", Kind: api.TakeR, Farm: 1, Rank: 2, Litres: 40, From: 6, To: 96, Every: 6, Length: 2}, {Name: "t1", Kind: api.TakeR, Farm: 1, Rank: 1, Litres: 5, From: 24, To: 48, Every: 12, Length: 3},
			{Name: "t2", Kind: api.TakeR, Farm: 0, Litres: 40, From: 24, To: 48, Every: 1, Length: 1}, {Name: "mine", Kind: api.OwnR, Farm: 1, Reach: 1, To: 119}, {Name: "way", Kind: api.EaseR, From: 4, To: 72},
		},
		Duties: []api.Duty{{Name: "clean", Farm: 1, Reach: 1, Due: 120}},
	}
	if d := expanded(t, vega); !reflect.DeepEqual(d, want) {
		t.Errorf("got %v\nwant %v", d, want)
	}
}

// P19.1: the errors of expansion.
func TestExpandErrors(t *testing.T) {
	for _, x := range []struct {
		old, new string
		want     api.Errno
	}{
		{"season 5 d", "season 5", api.ErrUnit}, {"season 5 d", "season 5 d / 0", api.ErrRatio}, {"season 5 d", "season 1 h / 2", api.ErrExpand}, {"season 5 d", "season 0 h", api.ErrExpand}, {"season 5 d", "season 4097 h", api.ErrExpand},
		{"half = 1 / 2", "half = 1 / 0", api.ErrRatio}, {"seepage half / 2", "seepage 1073741825", api.ErrLimit}, {"delay 2 h", "delay 0 h", api.ErrExpand}, {"delay 2 h", "delay 17 h", api.ErrExpand}, {"siphon 3 l", "siphon 201 l", api.ErrExpand},
		{"evaporation 1 l to 1 l", "evaporation 2 l to 1 l", api.ErrExpand}, {"seepage half / 2 to half", "seepage half to half / 2", api.ErrExpand}, {"to half", "to 3 / 2", api.ErrExpand}, {"area 20 a", "area 0 a", api.ErrExpand}, {"area 20 a", "area 1048577 a", api.ErrExpand},
		{"area 20 a", "area 3 a / 2", api.ErrExpand}, {"turn west for 3 h", "turn west for 0 h", api.ErrExpand}, {"turn west for 3 h", "turn west for 5 h / 2", api.ErrExpand}, {"rotation dula on low", "rotation dula on head", api.ErrExpand},
		{"{ turn west for 3 h ; turn east for 1 h ; turn west for 2 h ; }", "{ }", api.ErrExpand}, {"from 2 h to 4 d", "from 91 h to 4 d", api.OK}, {"from 2 h to 4 d", "from 92 h to 4 d", api.ErrExpand}, {"from 2 h to 4 d", "from 2 h to 5 d", api.ErrExpand},
		{"rank 2", "rank 1048577", api.ErrExpand}, {"flow 5 l / 1 h", "flow 0 l / 1 h", api.ErrExpand}, {"flow 5 l / 1 h", "flow 5 l / 2 h", api.ErrExpand}, {"every 12 h for 3 h", "every 2 h for 3 h", api.ErrExpand}, {"every 12 h", "every 121 h", api.ErrExpand},
		{"from 4 h to 3 d", "from 4 h to 3 h", api.ErrExpand}, {"by 5 d", "by 6 d", api.ErrExpand}, {"by 5 d", "by 1 h / 3", api.ErrExpand}, {"by 5 d", "by 1 h / 0", api.ErrRatio}, {"holds 3 * big", "holds 5001 m3", api.ErrExpand}, {"needs 3 m3 / 10 a", "needs 2 m3 / 3 a", api.ErrExpand},
	} {
		if !strings.Contains(vega, x.old) {
			t.Fatalf("%q", x.old)
		}
		d, e := Expand(source(t, strings.Replace(vega, x.old, x.new, 1)))
		if e != x.want || e != api.OK && !reflect.DeepEqual(d, api.District{}) {
			t.Errorf("%q: %d, want %d", x.new, e, x.want)
		}
	}
	if _, e := Expand(api.Source{}); e != api.ErrName {
		t.Error("the zero source")
	}
	// An error of a value comes before one of a number that is no integer, wherever both stand.
	if _, e := Expand(source(t, strings.Replace(strings.Replace(vega, "season 5 d", "season 1 h / 7", 1), "by 5 d", "by 1 h / 0", 1))); e != api.ErrRatio {
		t.Errorf("the order of errors: %d", e)
	}
}

// P19.1: too many rights are another error than wrong ones.
func TestManyRights(t *testing.T) {
	s := source(t, vega)
	many := func(n int, flow int) api.Source {
		x := s
		turn := s.Rotations[0].Turns[1]
		r := s.Rotations[0]
		r.Turns = nil
		for range 60 {
			r.Turns = append(r.Turns, turn)
		}
		r.Flow.Args = nil
		r.Flow = api.Expr{Op: api.DivX, Args: []api.Expr{{Op: api.NumX, N: flow, Unit: api.LitreU}, {Op: api.NumX, N: 1, Unit: api.HourU}}}
		x.Rotations = nil
		for i := range n {
			r.Name = "r" + string(rune('a'+i))
			x.Rotations = append(x.Rotations, r)
		}
		return x
	}
	if d, e := Expand(many(4, 1)); e != api.OK || len(d.Rights) != 244 {
		t.Errorf("244 rights: %d", e)
	}
	if _, e := Expand(many(5, 1)); e != api.ErrLimit {
		t.Errorf("304 rights: %d", e)
	}
	if _, e := Expand(many(5, 0)); e != api.ErrExpand {
		t.Errorf("304 wrong rights: %d", e)
	}
}

// P19.2: what a valid district may have.
func TestCheck(t *testing.T) {
	base := expanded(t, vega)
	for i, x := range []struct {
		change func(d *api.District)
		want   api.Errno
	}{
		{func(d *api.District) {}, api.OK}, {func(d *api.District) { *d = api.District{} }, api.ErrDistrict}, {func(d *api.District) { d.Reaches = make([]api.Reach, 65) }, api.ErrLimit}, {func(d *api.District) { d.Farms = make([]api.Farm, 601) }, api.ErrLimit},
		{func(d *api.District) { d.Crops = make([]api.Crop, 33) }, api.ErrLimit}, {func(d *api.District) { d.Rights = make([]api.Right, 257) }, api.ErrLimit}, {func(d *api.District) { d.Duties = make([]api.Duty, 257) }, api.ErrLimit},
		{func(d *api.District) { d.Hours = 0 }, api.ErrDistrict}, {func(d *api.District) { d.Hours = 4097 }, api.ErrDistrict}, {func(d *api.District) { d.Tank.Start = -1 }, api.ErrDistrict}, {func(d *api.District) { d.Tank.Cap = d.Tank.Start - 1 }, api.ErrDistrict}, {func(d *api.District) { d.Tank.Cap = 1 << 40 }, api.OK}, {func(d *api.District) { d.Tank.Cap = 1<<40 + 1 }, api.ErrDistrict},
		{func(d *api.District) { d.Reaches[0].Up = 0 }, api.ErrDistrict}, {func(d *api.District) { d.Reaches[1].Up = 1 }, api.ErrDistrict}, {func(d *api.District) { d.Reaches[1].Up = -1 }, api.ErrDistrict}, {func(d *api.District) { d.Reaches = nil }, api.ErrDistrict},
		{func(d *api.District) { d.Reaches[0].Delay = 16 }, api.OK}, {func(d *api.District) { d.Reaches[0].Cap = 1<<30 + 1 }, api.ErrDistrict}, {func(d *api.District) { d.Reaches[0].Cap = -1 }, api.ErrDistrict}, {func(d *api.District) { d.Reaches[0].Bank = 1<<40 + 1 }, api.ErrDistrict}, {func(d *api.District) { d.Reaches[0].Siphon = 41 }, api.ErrDistrict}, {func(d *api.District) { d.Reaches[0].Siphon, d.Reaches[0].Bank = 40, 39 }, api.ErrDistrict}, {func(d *api.District) { d.Reaches[0].Siphon = 40 }, api.OK},
		{func(d *api.District) { d.Reaches[0].Evap.Lo = -1 }, api.ErrDistrict}, {func(d *api.District) { d.Reaches[0].Evap.Hi = 1<<30 + 1 }, api.ErrDistrict}, {func(d *api.District) { d.Reaches[0].Seep[0] = api.Ratio{} }, api.ErrDistrict}, {func(d *api.District) { d.Reaches[0].Seep[1] = api.Ratio{N: 2, D: 4} }, api.ErrDistrict}, {func(d *api.District) { d.Reaches[0].Seep[0] = api.Ratio{N: -1, D: 4} }, api.ErrDistrict}, {func(d *api.District) { d.Reaches[0].Seep[1] = api.Ratio{N: 1, D: 1} }, api.OK},
		{func(d *api.District) { d.Crops[0].Need = 1<<20 + 1 }, api.ErrDistrict}, {func(d *api.District) { d.Crops[0].Need = -1 }, api.ErrDistrict}, {func(d *api.District) { d.Farms[0].Reach = 2 }, api.ErrDistrict}, {func(d *api.District) { d.Farms[0].Crop = -1 }, api.ErrDistrict}, {func(d *api.District) { d.Farms[0].Crop = 1 }, api.ErrDistrict}, {func(d *api.District) { d.Farms[1].Crop = 0 }, api.ErrDistrict}, {func(d *api.District) { d.Farms[0].Area = -1 }, api.ErrDistrict},
		{func(d *api.District) { d.Rights[0].Kind = 4 }, api.ErrDistrict}, {func(d *api.District) { d.Rights[0].Reach = 1 }, api.ErrDistrict}, {func(d *api.District) { d.Rights[0].Farm = 2 }, api.ErrDistrict}, {func(d *api.District) { d.Rights[0].To = 120 }, api.ErrDistrict}, {func(d *api.District) { d.Rights[0].From = -1 }, api.ErrDistrict}, {func(d *api.District) { d.Rights[0].Rank = -1 }, api.ErrDistrict}, {func(d *api.District) { d.Rights[0].Litres = 1<<30 + 1 }, api.ErrDistrict}, {func(d *api.District) { d.Rights[0].Length = 0 }, api.ErrDistrict},
		{func(d *api.District) { d.Rights[5].From = 1 }, api.ErrDistrict}, {func(d *api.District) { d.Rights[5].To = 118 }, api.ErrDistrict}, {func(d *api.District) { d.Rights[5].Rank = 1 }, api.ErrDistrict}, {func(d *api.District) { d.Rights[6].Litres = 1 }, api.ErrDistrict}, {func(d *api.District) { d.Rights[6].Every = 1 }, api.ErrDistrict}, {func(d *api.District) { d.Rights[6].Length = 1 }, api.ErrDistrict}, {func(d *api.District) { d.Rights[6].To = 119 }, api.OK},
		{func(d *api.District) { d.Duties[0].Farm = -1 }, api.ErrDistrict}, {func(d *api.District) { d.Duties[0].Reach = 2 }, api.ErrDistrict}, {func(d *api.District) { d.Duties[0].Due = 121 }, api.ErrDistrict}, {func(d *api.District) { d.Duties[0].Due = -1 }, api.ErrDistrict}, {func(d *api.District) { d.Name = ""; d.Wells = make([]api.Well, 9) }, api.OK},
		{func(d *api.District) { d.Rights = d.Rights[:6] }, api.OK}, {func(d *api.District) { d.Duties = nil }, api.OK},
	} {
		d := base
		d.Reaches, d.Farms, d.Crops = append([]api.Reach(nil), d.Reaches...), append([]api.Farm(nil), d.Farms...), append([]api.Crop(nil), d.Crops...)
		d.Rights, d.Duties = append([]api.Right(nil), d.Rights...), append([]api.Duty(nil), d.Duties...)
		x.change(&d)
		if e := Check(d); e != x.want {
			t.Errorf("change %d: %d, want %d", i, e, x.want)
		}
	}
}

// P19.3: exactly one turn of a rotation is open in each of its hours.
func TestTurns(t *testing.T) {
	d := expanded(t, vega)
	for h := range d.Hours {
		open := 0
		for _, r := range d.Rights[:3] {
			if h >= r.From && h <= r.To && (h-r.From)%r.Every < r.Length {
				open++
			}
		}
		if want := map[bool]int{true: 1}[h >= 2 && h <= 96]; open != want {
			t.Errorf("%d turns in the hour %d", open, h)
		}
	}
}

// P19.4 to P19.6: constants, units, and elements that are left out.
func TestConsequences(t *testing.T) {
	want := expanded(t, vega)
	plain := strings.NewReplacer(" q ", " ( 40 l / 1 h ) ", " big ", " ( ( 40 l / 1 h + 40 l / 1 h ) * 9 h ) ", "let q", "let q", "let big", "let big").Replace(strings.ReplaceAll(strings.ReplaceAll(vega, "let q", "let Q"), "let big", "let Big"))
	if !reflect.DeepEqual(expanded(t, plain), want) {
		t.Error("constants")
	}
	units := strings.NewReplacer(" 5 d", " 120 h", " 4 d", " 96 h", " 1 d", " 24 h", " 2 d", " 48 h", " 3 d", " 72 h", "000 m3", "000000 l", " 1 m3", " 1000 l", " 2 m3", " 2000 l", " 3 m3", " 3000 l").Replace(vega)
	if !reflect.DeepEqual(expanded(t, units), want) {
		t.Error("units")
	}
	s := source(t, vega)
	s.Duties, s.Rights = nil, s.Rights[:3]
	d, e := Expand(s)
	want.Duties, want.Rights = nil, want.Rights[:6]
	if e != api.OK || !reflect.DeepEqual(d, want) {
		t.Error("without the last right and the last duty")
	}
}
