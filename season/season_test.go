package season

import (
	"math/rand"
	"reflect"
	"slices"
	"testing"

	"acequia/api"
	"acequia/balance"
	"acequia/claims"
	"acequia/division"
	"acequia/evidence"
	"acequia/routing"
	"acequia/timetable"
)

func take(farm, rank, litres, from, to, every, length int) api.Right {
	return api.Right{Kind: api.TakeR, Farm: farm, Rank: rank, Litres: litres, From: from, To: to, Every: every, Length: length}
}

// season has the reaches 0 and 1 (below 0), farms at 0, 1 and 1, and rights of each of them, for 12 hours in blocks of 4.
func season() api.Season {
	d := api.District{Hours: 12, Tank: api.Tank{Cap: 300, Start: 200}}
	for i := range 2 {
		d.Reaches = append(d.Reaches, api.Reach{Up: i - 1, Delay: 1, Cap: 60, Bank: 100, Evap: api.Range{Lo: 1, Hi: 2}, Seep: [2]api.Ratio{{D: 1}, {N: 1, D: 10}}})
	}
	for _, reach := range []int{0, 1, 1} {
		d.Farms = append(d.Farms, api.Farm{Reach: reach, Crop: -1})
	}
	d.Rights = []api.Right{take(0, 2, 6, 0, 11, 1, 1), take(1, 1, 10, 2, 11, 3, 2), take(2, 3, 7, 4, 9, 1, 1)}
	d.Duties = []api.Duty{{Farm: 2, Reach: 1, Due: 6}}
	list := func(n int) []int { return slices.Repeat([]int{n}, 12) }
	return api.Season{District: d, Every: 4, Weather: api.Weather{Inflow: list(5), Evap: [][]int{list(500), list(0)}, Seep: [][]int{list(1000), list(300)}}}
}

// P58.1: valid seasons, and the order of the errors.
func TestCheck(t *testing.T) {
	past := func(body, many int) api.Past {
		return api.Past{Body: body, Bounds: make([]api.Range, many), Seen: make([]int, many)}
	}
	for i, x := range []struct {
		change func(x *api.Season)
		want   api.Errno
	}{
		{func(x *api.Season) {}, 0}, {func(x *api.Season) { *x = api.Season{} }, api.ErrDistrict}, {func(x *api.Season) { x.Deeds, x.Done = make([]api.Deed, 1), make([]api.Done, 2) }, api.ErrDeed}, {func(x *api.Season) { x.Done, x.Judgements = make([]api.Done, 2), make([]api.Judgement, 2) }, api.ErrDuty}, {func(x *api.Season) { x.Judgements, x.Forecasts = make([]api.Judgement, 2), make([]api.Past, 1) }, api.ErrJudge}, {func(x *api.Season) { x.Forecasts, x.Stakes = make([]api.Past, 1), make([]api.Stake, 2) }, api.ErrPast}, {func(x *api.Season) { x.Stakes, x.Every = make([]api.Stake, 2), 0 }, api.ErrStake},
		{func(x *api.Season) { x.District.Hours, x.Every = 513, 0 }, api.ErrLimit}, {func(x *api.Season) { x.District.Farms = slices.Repeat(x.District.Farms[:1], 342) }, api.ErrLimit}, {func(x *api.Season) { x.Every = 0 }, api.ErrSeason}, {func(x *api.Season) { x.Every = 13 }, api.ErrSeason}, {func(x *api.Season) { x.Every = 12 }, 0}, {func(x *api.Season) { x.Every = -1 }, api.ErrSeason},
		{func(x *api.Season) { x.Forecasts = []api.Past{past(1, 3), past(2, 1)} }, 0}, {func(x *api.Season) { x.Forecasts = []api.Past{past(1, 4)} }, api.ErrSeason}, {func(x *api.Season) { x.Forecasts = []api.Past{past(1, 3), past(1, 1)} }, api.ErrSeason}, {func(x *api.Season) { x.Every, x.Forecasts = 5, []api.Past{past(1, 3)} }, 0},
		{func(x *api.Season) { x.Weather.Inflow = x.Weather.Inflow[1:] }, api.ErrSeason}, {func(x *api.Season) { x.Weather.Inflow[3] = -1 }, api.ErrSeason}, {func(x *api.Season) { x.Weather.Inflow[3] = 1<<30 + 1 }, api.ErrSeason}, {func(x *api.Season) { x.Weather.Evap = x.Weather.Evap[1:] }, api.ErrSeason}, {func(x *api.Season) { x.Weather.Seep[1] = nil }, api.ErrSeason}, {func(x *api.Season) { x.Weather.Seep[1][2] = 1001 }, api.ErrSeason}, {func(x *api.Season) { x.Weather.Evap[0][11] = -1 }, api.ErrSeason},
	} {
		y := season()
		x.change(&y)
		_, e1 := Plan(y, -1, -1, make([]api.Claim, 1))
		_, e2 := Play(y)
		_, e3 := Owed(y)
		want := x.want
		if want == api.OK {
			want = api.ErrArg
		}
		if e := Check(y); e != x.want || e1 != want || e2 != e || e3 != e {
			t.Errorf("change %d: %d, %d, %d, %d, want %d", i, e, e1, e2, e3, x.want)
		}
	}
	long := season()
	long.Every, long.District.Hours = 65, 100
	for _, l := range []*[]int{&long.Weather.Inflow, &long.Weather.Evap[0], &long.Weather.Evap[1], &long.Weather.Seep[0], &long.Weather.Seep[1]} {
		*l = make([]int, 100)
	}
	if Check(long) != api.ErrSeason {
		t.Error("blocks of 65 hours")
	}
	if long.Every = 64; Check(long) != api.OK {
		t.Error("blocks of 64 hours")
	}
}

func claim(right, farm, hour, litres, rank int) api.Claim {
	return api.Claim{Right: right, Farm: farm, Hour: hour, Litres: litres, Rank: rank}
}

// P58.2: what Plan refuses.
func TestPlanErrors(t *testing.T) {
	x := season()
	early := claim(0, 0, 4, 6, 2) // its wave is the hour 3
	for i, y := range []struct {
		made, free int
		before     []api.Claim
		want       api.Errno
	}{
		{4, 0, []api.Claim{early}, 0}, {1, 0, nil, api.ErrArg}, {12, 0, nil, api.ErrArg}, {-4, 0, nil, api.ErrArg}, {0, -1, nil, api.ErrArg}, {0, 1<<40 + 1, nil, api.ErrArg}, {8, 1 << 40, nil, 0}, {4, 0, make([]api.Claim, 1), api.ErrClaim}, {0, 0, []api.Claim{early}, api.ErrSeason}, {4, 0, []api.Claim{claim(0, 0, 5, 6, 2)}, api.ErrSeason}, {4, 0, []api.Claim{claim(0, 0, 0, 6, 2)}, api.ErrSeason}, {4, 0, []api.Claim{claim(0, 0, 4, 1<<20, 2)}, api.ErrSeason}, {4, 0, []api.Claim{claim(1, 1, 5, 6, 1)}, 0},
	} {
		if s, e := Plan(x, y.made, y.free, y.before); e != y.want || e != api.OK && !reflect.DeepEqual(s, api.Scheme{}) {
			t.Errorf("case %d: %d, want %d", i, e, y.want)
		}
	}
	x.District.Rights = nil
	s, e := Plan(x, 0, 9, nil)
	if e != api.OK || !reflect.DeepEqual(s, api.Scheme{Free: 9, Hours: api.Range{Hi: 3}}) {
		t.Errorf("no rights: %v, %d", s, e)
	}
	many := season()
	many.District.Hours, many.Every = 341, 64
	many.Weather = api.Weather{Inflow: make([]int, 341), Evap: [][]int{make([]int, 341), make([]int, 341)}, Seep: [][]int{make([]int, 341), make([]int, 341)}}
	many.District.Rights = slices.Repeat(many.District.Rights[:1], 63)
	if _, e := Plan(many, 0, 0, nil); e != api.ErrLimit {
		t.Errorf("the error of claims.Of: %d", e)
	}
}

// P58.2: claims in force, and which of them are served.
func TestPlan(t *testing.T) {
	x := season()
	c := func(l ...[2]int) (r []api.Claim) {
		for _, y := range l {
			litres := []int{6, 10, 7}[y[0]]
			r = append(r, claim(y[0], y[0], y[1], litres, []int{2, 1, 3}[y[0]]))
		}
		return r
	}
	// Waves are 1 hour (farm 0) and 2 hours (farms 1 and 2) before the hour.
	want := c([2]int{0, 1}, [2]int{1, 2}, [2]int{0, 2}, [2]int{1, 3}, [2]int{0, 3}, [2]int{0, 4}, [2]int{2, 4}, [2]int{1, 5}, [2]int{2, 5})
	s, e := Plan(x, 0, 1<<40, nil)
	if e != api.OK || !slices.Equal(s.Claims, want) || !slices.Equal(s.Served, want) || s.Short || !slices.Equal(s.Awards, []int{6, 10, 6, 10, 6, 6, 7, 10, 7}) || s.Made != 0 || s.Hours != (api.Range{Lo: 0, Hi: 3}) || s.Free != 1<<40 {
		t.Errorf("Plan = %v, %d", s, e)
	}
	x.District.Reaches[1].Cap = 20
	s, _ = Plan(x, 0, 1<<40, nil)
	if served := slices.DeleteFunc(slices.Clone(want), func(y api.Claim) bool { return y.Right == 2 && y.Hour == 5 }); !slices.Equal(s.Claims, want) || !slices.Equal(s.Served, served) {
		t.Errorf("a gate that is too small: %v", s.Served)
	}
	x = season()
	x.Deeds = []api.Deed{{No: 1, Kind: api.LapseD, Right: 1, From: 1, At: 0, Known: 4}}
	x.Judgements = []api.Judgement{{No: 1, Hour: 4, Kind: api.LimitJ, Farm: 0, From: 0, To: 11, N: 1}}
	same, _ := Plan(x, 0, 1<<40, nil)
	if !slices.Equal(same.Claims, want) {
		t.Errorf("what is known later: %v", same.Claims)
	}
	later, e := Plan(x, 4, 1<<40, nil)
	// The duty of the farm 2 is overdue from the hour 6 on.
	if want := []api.Claim{claim(0, 0, 5, 1, 2), claim(0, 0, 6, 1, 2), claim(0, 0, 7, 1, 2), claim(0, 0, 8, 1, 2)}; e != api.OK || !slices.Equal(later.Claims, want) {
		t.Errorf("the second block: %v, %d", later.Claims, e)
	}
	x.Done = []api.Done{{Duty: 0, At: 3, Known: 4}}
	done, _ := Plan(x, 4, 1<<40, nil)
	if len(done.Claims) != 8 {
		t.Errorf("with the duty done: %v", done.Claims)
	}
}

// P58.2: a shortage is divided among the hours, and among the farms of a wave.
func TestShort(t *testing.T) {
	x := season()
	whole, _ := Plan(x, 0, 1<<40, nil)
	needs := 0
	for w := range 4 {
		litres := make([]int, 3)
		for _, c := range whole.Served {
			if p := plannerOf(x); p.wave(c) == w {
				litres[c.Farm] += c.Litres
			}
		}
		heads, _, _ := division.Needs(x.District, litres)
		needs += heads[0]
	}
	for free := range needs + 1 {
		s, e := Plan(x, 0, free, nil)
		if e != api.OK || s.Short != (free < needs) || !slices.Equal(s.Served, whole.Served) || len(s.Awards) != len(s.Served) {
			t.Fatalf("%d litres: %v, %d", free, s, e)
		}
		for i, c := range s.Served {
			if s.Awards[i] < 0 || s.Awards[i] > c.Litres || !s.Short && s.Awards[i] != c.Litres {
				t.Fatalf("%d litres: %v", free, s.Awards)
			}
		}
		if _, ok, _ := timetable.Make(tanked(x.District, free), awarded(s)); !ok {
			t.Fatalf("%d litres do not cover %v", free, s.Awards)
		}
	}
	s, _ := Plan(x, 0, 0, nil)
	if !slices.Equal(s.Awards, make([]int, 9)) {
		t.Errorf("no litres: %v", s.Awards)
	}
}

func tanked(d api.District, litres int) api.District {
	d.Tank = api.Tank{Cap: litres, Start: litres}
	return d
}

func awarded(s api.Scheme) (l []api.Claim) {
	for i, c := range s.Served {
		if c.Litres = s.Awards[i]; c.Litres > 0 {
			l = append(l, c)
		}
	}
	return l
}

// P58.3: a small season, hour by hour.
func TestPlay(t *testing.T) {
	x := season()
	x.District.Rights = []api.Right{take(1, 0, 10, 2, 2, 1, 1), take(0, 0, 5, 11, 11, 1, 1), take(0, 0, 3, 0, 0, 1, 1)}
	x.District.Tank = api.Tank{Cap: 202, Start: 200}
	x.Forecasts = []api.Past{{Body: 4, Bounds: []api.Range{{Lo: 0, Hi: 15}, {Lo: 20, Hi: 20}}, Seen: []int{9, 9}}}
	x.Stakes = []api.Stake{{Body: 4, Period: 0, Deposit: 7, Rate: 1}, {Body: 4, Period: 1, Deposit: 7, Rate: 1}}
	o, e := Play(x)
	if e != api.OK {
		t.Fatalf("Play: %d", e)
	}
	// The farm 1 needs 14 litres at its reach, and 18 at the reach 0; the farm 0 needs 8 in the hour 10.
	orders := []api.Order{{Hour: 0, Index: 0, Litres: 18}, {Hour: 1, Index: 1, Litres: 14}, {Hour: 2, Index: 1, Litres: 10, Outlet: true}, {Hour: 10, Index: 0, Litres: 8}, {Hour: 11, Index: 0, Litres: 5, Outlet: true}}
	if !slices.Equal(o.Orders, orders) || len(o.Schemes) != 3 {
		t.Errorf("Orders = %v", o.Orders)
	}
	run := o.Run
	if run.In[0][0] != 18 || run.Evap[0][0] != 1 || run.Seep[0][0] != 2 || run.In[1][1] != 14 || run.Tail[0][1] != 1 || run.Evap[1][1] != 1 || run.Seep[1][1] != 0 || run.Taken[1][2] != 10 || run.Tail[1][2] != 3 {
		t.Errorf("Run = %v", run)
	}
	if want := []int{0, 0, 0, 0, 5, 5, 5, 5, 5, 5, 0, 2}; !slices.Equal(run.Spill, want) || run.In[0][10] != 8 {
		t.Errorf("Spill = %v, want %v", run.Spill, want)
	}
	if !slices.Equal(o.Asked, []int{5, 10, 0}) || !slices.Equal(o.Given, []int{5, 10, 0}) || !slices.Equal(o.Paid, []int{5, 0}) || !slices.Equal(o.Got, []int{0, 0, 0}) || o.Rest != 5 {
		t.Errorf("Asked %v, Given %v, Paid %v, Got %v, Rest %d", o.Asked, o.Given, o.Paid, o.Got, o.Rest)
	}
	if l, e := Owed(x); e != api.OK || !slices.Equal(l, []int{0, 0, 0}) {
		t.Errorf("Owed = %v", l)
	}
	x.District.Tank.Start, x.Weather.Inflow = 10, make([]int, 12)
	o, _ = Play(x)
	l, _ := Owed(x)
	if missing := 10 - o.Given[1]; missing < 1 || o.Given[0]+o.Got[0] > 5 || !slices.Equal(l, []int{5 - o.Given[0] - o.Got[0], missing - min(missing, o.Got[1]), 0}) {
		t.Errorf("a shortage: %v, %v, %v, %v", o.Given, o.Paid, o.Got, l)
	}
	x.District.Rights = nil
	if o, e := Play(x); e != api.OK || len(o.Orders) != 0 || !slices.Equal(o.Asked, []int{0, 0, 0}) {
		t.Errorf("no rights: %v", o)
	}
	if l, e := Owed(x); e != api.OK || !slices.Equal(l, []int{0, 0, 0}) {
		t.Errorf("no rights: %v", l)
	}
}

func random(r *rand.Rand) api.Season {
	x := season()
	d := &x.District
	d.Tank = api.Tank{Cap: 300, Start: r.Intn(100)}
	for i := range d.Reaches {
		d.Reaches[i].Siphon, d.Reaches[i].Cap, d.Reaches[i].Bank, d.Reaches[i].Delay = r.Intn(2)*r.Intn(12), 15+r.Intn(50), 20+r.Intn(60), 1+r.Intn(2)
	}
	d.Rights = nil
	for range 1 + r.Intn(4) {
		from := r.Intn(12)
		every := 1 + r.Intn(4)
		d.Rights = append(d.Rights, take(r.Intn(3), r.Intn(3), 1+r.Intn(20), from, from+r.Intn(12-from), every, 1+r.Intn(every)))
	}
	for i := range 12 {
		x.Weather.Inflow[i] = r.Intn(30)
		for k := range 2 {
			x.Weather.Evap[k][i], x.Weather.Seep[k][i] = r.Intn(1001), r.Intn(1001)
		}
	}
	x.Every = 1 + r.Intn(6)
	x.Deeds = []api.Deed{{No: 1, Kind: api.LapseD, From: d.Rights[0].Farm, At: r.Intn(12), Known: r.Intn(12)}}
	x.Done = []api.Done{{Duty: 0, At: 7, Known: 7 + r.Intn(4)}}
	x.Judgements = []api.Judgement{{No: 1, Hour: r.Intn(12), Kind: api.LimitJ, Farm: r.Intn(3), From: 0, To: 11, N: 1 + r.Intn(5)}}
	many := len(slices.Collect(blocks(x)))
	x.Forecasts = []api.Past{{Body: 1, Bounds: slices.Repeat([]api.Range{{Lo: 10, Hi: 60}}, min(16, many)), Seen: make([]int, min(16, many))}}
	x.Stakes = []api.Stake{{Body: 1, Period: 0, Deposit: r.Intn(50), Rate: 1}, {Body: 1, Period: 1, Deposit: r.Intn(50), Rate: 2}}
	return x
}

// P58.4, P58.5 and P58.7: the water is there, everybody takes what was awarded, and what is owed.
func TestSeasons(t *testing.T) {
	r := rand.New(rand.NewSource(58))
	short := 0
	for range 300 {
		x := random(r)
		d := x.District
		o, e := Play(x)
		if e != api.OK {
			t.Fatalf("Play: %d", e)
		}
		if e := balance.Check(d, o.Run); e != api.OK {
			t.Fatalf("the run: %d", e)
		}
		if fits, _, _, e := routing.Fits(d, o.Orders); !fits || e != api.OK {
			t.Fatal("the orders do not fit")
		}
		taken := map[[2]int]int{}
		for _, s := range o.Schemes {
			if s.Short {
				short++
			}
			if claims.Check(d, s.Claims) != api.OK || claims.Check(d, s.Served) != api.OK {
				t.Fatal("claims out of order")
			}
			for i, c := range s.Served {
				taken[[2]int{c.Farm, c.Hour}] += s.Awards[i]
			}
		}
		for farm := range d.Farms {
			for hour := range d.Hours {
				if o.Run.Taken[farm][hour] != taken[[2]int{farm, hour}] {
					t.Fatalf("the farm %d in the hour %d", farm, hour)
				}
			}
		}
		for hour := range d.Hours {
			if w, _, e := evidence.Of(d, o.Run, hour, 0); e == api.OK {
				if ok, _ := evidence.Explains(d, api.Evidence{Waves: []api.Wave{w}}, nil); !ok {
					t.Fatal("a wave that is not explained")
				}
			}
		}
		checkMoney(t, x, o)
		checkPast(t, r, x, o)
	}
	if short < 50 {
		t.Errorf("only %d blocks are short", short)
	}
}

func checkMoney(t *testing.T, x api.Season, o api.Outcome) {
	t.Helper()
	owed, _ := Owed(x)
	sum := o.Rest
	for i, n := range o.Got {
		sum += n
		if owed[i] != max(0, o.Asked[i]-o.Given[i]-n) || o.Given[i] > o.Asked[i] {
			t.Fatalf("the farm %d is owed %d", i, owed[i])
		}
	}
	for _, n := range o.Paid {
		sum -= n
	}
	if sum != 0 {
		t.Fatal("money")
	}
}

// checkPast changes what happens, or becomes known, from an hour on. P58.6.
func checkPast(t *testing.T, r *rand.Rand, x api.Season, o api.Outcome) {
	t.Helper()
	hour := r.Intn(12)
	y := x
	clone := func(l [][]int) [][]int { return [][]int{slices.Clone(l[0]), slices.Clone(l[1])} }
	y.Weather = api.Weather{Inflow: slices.Clone(x.Weather.Inflow), Evap: clone(x.Weather.Evap), Seep: clone(x.Weather.Seep)}
	for i := hour; i < 12; i++ {
		y.Weather.Inflow[i] = r.Intn(30)
		for k := range 2 {
			y.Weather.Evap[k][i], y.Weather.Seep[k][i] = r.Intn(1001), r.Intn(1001)
		}
	}
	y.Deeds = append(slices.Clone(x.Deeds), api.Deed{No: 2, Kind: api.LapseD, From: r.Intn(3), At: 0, Known: hour + 1})
	y.Judgements = append(slices.Clone(x.Judgements), api.Judgement{No: 2, Hour: max(x.Judgements[0].Hour, min(12, hour+1)), Kind: api.CloseJ, Farm: r.Intn(3), From: 0, To: 11})
	other, e := Play(y)
	if e != api.OK {
		t.Fatalf("Play: %d", e)
	}
	for i, s := range o.Schemes {
		if s.Made <= hour && !reflect.DeepEqual(s, other.Schemes[i]) {
			t.Fatalf("the scheme of the hour %d depends on the hour %d", s.Made, hour)
		}
	}
}

// P58.8: a claim that is not served could not have been.
func TestNotServed(t *testing.T) {
	r := rand.New(rand.NewSource(59))
	left := 0
	for range 200 {
		x := random(r)
		o, _ := Play(x)
		var before []api.Claim
		full := tanked(x.District, 1<<40)
		for _, s := range o.Schemes {
			seniors := slices.Clone(s.Claims)
			slices.SortFunc(seniors, by(rank, right, farm, hour))
			var kept []api.Claim
			for _, c := range seniors {
				_, ok, _ := timetable.Make(full, inOrder(before, kept, []api.Claim{c}))
				if ok != slices.Contains(s.Served, c) {
					t.Fatalf("%v", c)
				}
				if ok {
					kept = append(kept, c)
				} else {
					left++
				}
			}
			before = inOrder(before, awarded(s))
		}
	}
	if left < 20 {
		t.Errorf("only %d claims are not served", left)
	}
}
