package harmless

import (
	"math/rand"
	"reflect"
	"slices"
	"testing"

	"acequia/api"
	"acequia/division"
)

// district has the reaches 0, 1 and 2 (both below 0), which lose 2 litres of a parcel at most, with farms at 1, 1, 2 and 0.
func district() api.District {
	d := api.District{Hours: 1}
	for _, up := range []int{-1, 0, 0} {
		d.Reaches = append(d.Reaches, api.Reach{Up: up, Delay: 1, Cap: 40, Bank: 100, Evap: api.Range{Hi: 2}, Seep: [2]api.Ratio{{D: 1}, {D: 1}}})
	}
	for _, reach := range []int{1, 1, 2, 0} {
		d.Farms = append(d.Farms, api.Farm{Reach: reach, Crop: -1})
	}
	return d
}

func deal(from, to, litres, lo, hi int) api.Deal {
	return api.Deal{From: from, To: to, Litres: litres, Rain: api.Range{Lo: lo, Hi: hi}}
}

// P46.1: how much arrives elsewhere.
func TestMove(t *testing.T) {
	for i, x := range []struct {
		change           func(d *api.District)
		awards           []int
		from, to, litres int
		got              int
		next             []int
	}{
		{nil, []int{5, 5, 5, 5}, 0, 1, 3, 3, []int{2, 8, 5, 5}}, {nil, []int{5, 0, 5, 0}, 0, 2, 5, 7, []int{0, 0, 12, 0}}, {nil, []int{5, 0, 0, 0}, 0, 2, 4, 2, []int{1, 0, 2, 0}}, {nil, []int{5, 0, 0, 0}, 0, 2, 2, 0, []int{3, 0, 0, 0}}, {nil, []int{5, 0, 0, 0}, 0, 3, 5, 7, []int{0, 0, 0, 7}},
		{nil, []int{5, 5, 5, 5}, 0, 1, 0, 0, []int{5, 5, 5, 5}}, {func(d *api.District) { d.Reaches[1].Siphon = 12 }, []int{5, 0, 5, 5}, 0, 1, 0, 5, []int{5, 5, 5, 5}}, {func(d *api.District) { d.Reaches[2].Cap = 8 }, []int{5, 0, 5, 0}, 0, 2, 5, 1, []int{0, 0, 6, 0}}, {func(d *api.District) { d.Reaches[2].Cap = 4 }, []int{5, 0, 5, 0}, 0, 2, 5, 0, []int{0, 0, 5, 0}},
	} {
		d := district()
		if x.change != nil {
			x.change(&d)
		}
		awards := slices.Clone(x.awards)
		got, next, e := Move(d, awards, x.from, x.to, x.litres)
		if e != api.OK || got != x.got || !slices.Equal(next, x.next) || !slices.Equal(awards, x.awards) {
			t.Errorf("case %d: %d, %v, %d", i, got, next, e)
		}
	}
	d := district()
	for i, x := range []struct {
		d                api.District
		awards           []int
		from, to, litres int
		want             api.Errno
	}{
		{api.District{}, nil, 0, 0, 0, api.ErrDistrict}, {d, []int{1, 1, 1}, 0, 0, 0, api.ErrDeal}, {d, []int{1, 1, 1, -1}, 0, 0, 0, api.ErrDeal}, {d, []int{1 << 30, 1, 1, 1}, 0, 0, 0, api.ErrDeal}, {d, []int{1, 1, 1, 1}, 0, 0, 0, api.ErrArg}, {d, []int{1, 1, 1, 1}, 4, 0, 0, api.ErrArg}, {d, []int{1, 1, 1, 1}, 0, -1, 0, api.ErrArg}, {d, []int{1, 1, 1, 1}, 0, 1, 2, api.ErrArg}, {d, []int{1, 1, 1, 1}, 0, 1, -1, api.ErrArg},
	} {
		if got, next, e := Move(x.d, x.awards, x.from, x.to, x.litres); e != x.want || got != 0 || next != nil {
			t.Errorf("error %d: %d, want %d", i, e, x.want)
		}
	}
}

// P46.2: deals one after the other.
func TestExecute(t *testing.T) {
	d := district()
	awards := []int{5, 5, 5, 5}
	deals := []api.Deal{deal(0, 1, 9, 0, 10), deal(1, 2, 3, 20, 30), deal(1, 0, 8, 5, 5)}
	got, next, e := Execute(d, awards, deals, 5)
	if e != api.OK || !slices.Equal(got, []int{5, 0, 8}) || !slices.Equal(next, []int{8, 2, 5, 5}) {
		t.Errorf("Execute = %v, %v, %d", got, next, e)
	}
	if got, next, e := Execute(d, awards, nil, 0); e != api.OK || len(got) != 0 || !slices.Equal(next, awards) {
		t.Error("no deals")
	}
	for i, x := range []struct {
		d      api.District
		awards []int
		deals  []api.Deal
		rain   int
		want   api.Errno
	}{
		{api.District{}, nil, make([]api.Deal, 65), -1, api.ErrDistrict}, {d, nil, make([]api.Deal, 65), -1, api.ErrLimit}, {d, nil, nil, -1, api.ErrArg}, {d, awards, nil, 10001, api.ErrArg}, {d, nil, nil, 0, api.ErrDeal}, {d, awards, make([]api.Deal, 1), 0, api.ErrDeal}, {d, awards, []api.Deal{deal(0, 4, 1, 0, 1)}, 0, api.ErrDeal}, {d, awards, []api.Deal{deal(-1, 0, 1, 0, 1)}, 0, api.ErrDeal}, {d, awards, []api.Deal{deal(0, 1, -1, 0, 1)}, 0, api.ErrDeal},
		{d, awards, []api.Deal{deal(0, 1, 1<<30+1, 0, 1)}, 0, api.ErrDeal}, {d, awards, []api.Deal{deal(0, 1, 1, 2, 1)}, 0, api.ErrDeal}, {d, awards, []api.Deal{deal(0, 1, 1, -1, 1)}, 0, api.ErrDeal}, {d, awards, []api.Deal{deal(0, 1, 1, 0, 10001)}, 0, api.ErrDeal}, {d, awards, slices.Repeat([]api.Deal{deal(0, 1, 1<<30, 0, 10000)}, 64), 10000, 0},
	} {
		if got, next, e := Execute(x.d, x.awards, x.deals, x.rain); e != x.want || e != api.OK && (got != nil || next != nil) {
			t.Errorf("error %d: %d, want %d", i, e, x.want)
		}
	}
}

func claim(hour, rank, right, farm, litres int) api.Claim {
	return api.Claim{Right: right, Farm: farm, Hour: hour, Litres: litres, Rank: rank}
}

// P46.3: claims that pass to another farm.
func TestRetitle(t *testing.T) {
	l := []api.Claim{claim(1, 3, 0, 0, 10), claim(1, 3, 0, 5, 1), claim(1, 4, 1, 0, 2), claim(1, 4, 1, 2, 7), claim(2, 0, 9, 0, 5)}
	for i, x := range []struct {
		litres, got int
		want        []api.Claim
	}{
		{1, 1, []api.Claim{claim(1, 3, 0, 0, 10), claim(1, 3, 0, 5, 1), claim(1, 4, 1, 0, 1), claim(1, 4, 1, 2, 7), claim(1, 4, 1, 5, 1), l[4]}},
		{6, 3, []api.Claim{claim(1, 3, 0, 0, 6), claim(1, 3, 0, 5, 3), claim(1, 4, 1, 2, 7), claim(1, 4, 1, 5, 1), l[4]}},
		{12, 5, []api.Claim{claim(1, 3, 0, 5, 6), claim(1, 4, 1, 2, 7), l[4]}},
		{12, 0, []api.Claim{claim(1, 3, 0, 5, 1), claim(1, 4, 1, 2, 7), l[4]}},
		{12, 24, []api.Claim{claim(1, 3, 0, 5, 21), claim(1, 4, 1, 2, 7), claim(1, 4, 1, 5, 4), l[4]}},
	} {
		if y, e := Retitle(l, 0, 5, 1, x.litres, x.got); e != api.OK || !reflect.DeepEqual(y, x.want) {
			t.Errorf("case %d: %v, %d", i, y, e)
		}
	}
	one := []api.Claim{claim(0, 3, 0, 0, 10)}
	if y, e := Retitle(one, 0, 1, 0, 4, 3); e != api.OK || !reflect.DeepEqual(y, []api.Claim{claim(0, 3, 0, 0, 6), claim(0, 3, 0, 1, 3)}) {
		t.Errorf("the example: %v", y)
	}
}

// P46.3: what Retitle refuses.
func TestRetitleErrors(t *testing.T) {
	one := []api.Claim{claim(0, 3, 0, 0, 10)}
	for i, c := range []api.Claim{{}, claim(0, 0, 256, 0, 1), claim(0, 0, -1, 0, 1), claim(0, 0, 0, 600, 1), claim(0, 0, 0, -1, 1), claim(4096, 0, 0, 0, 1), claim(-1, 0, 0, 0, 1), claim(0, 0, 0, 0, 1<<30+1), claim(0, 1<<20+1, 0, 0, 1), claim(0, -1, 0, 0, 1)} {
		if _, e := Retitle([]api.Claim{c}, 0, 0, -1, 0, 0); e != api.ErrDeal {
			t.Errorf("claim %d: %d", i, e)
		}
	}
	for i, x := range []struct {
		l                           []api.Claim
		from, to, hour, litres, got int
		want                        api.Errno
	}{
		{make([]api.Claim, 4097), 0, 0, 0, 0, 0, api.ErrLimit}, {append(one, one...), 0, 1, 0, 1, 1, api.ErrDeal}, {one, 0, 0, 0, 1, 1, api.ErrArg}, {one, -1, 0, 0, 1, 1, api.ErrArg}, {one, 0, 600, 0, 1, 1, api.ErrArg}, {one, 0, 1, -1, 1, 1, api.ErrArg}, {one, 0, 1, 4096, 1, 1, api.ErrArg}, {one, 0, 1, 0, 0, 1, api.ErrArg}, {one, 0, 1, 0, 1<<30 + 1, 1, api.ErrArg}, {one, 0, 1, 0, 1, -1, api.ErrArg}, {one, 0, 1, 0, 1, 1<<30 + 1, api.ErrArg},
		{one, 0, 1, 0, 11, 1, api.ErrDeal}, {one, 0, 1, 1, 1, 1, api.ErrDeal}, {nil, 0, 1, 0, 1, 1, api.ErrDeal}, {[]api.Claim{claim(0, 3, 0, 0, 1), claim(0, 3, 0, 1, 1<<30)}, 0, 1, 0, 1, 1, api.ErrDeal}, {[]api.Claim{claim(0, 3, 0, 0, 2), claim(0, 3, 0, 1, 1<<30-1)}, 0, 1, 0, 1, 1, 0},
	} {
		if y, e := Retitle(x.l, x.from, x.to, x.hour, x.litres, x.got); e != x.want || e != api.OK && y != nil {
			t.Errorf("error %d: %d, want %d", i, e, x.want)
		}
	}
	var many []api.Claim
	for hour := range 4096 {
		many = append(many, claim(hour, 0, 0, 0, 2))
	}
	if _, e := Retitle(many, 0, 1, 7, 1, 1); e != api.ErrLimit {
		t.Error("4097 claims")
	}
	if y, e := Retitle(many, 0, 1, 7, 2, 1); e != api.OK || len(y) != 4096 {
		t.Error("4096 claims")
	}
}

func random(r *rand.Rand) (api.District, []int) {
	d := district()
	for i := range d.Reaches {
		d.Reaches[i].Seep[1] = []api.Ratio{{D: 1}, {N: 1, D: 10}, {N: 1, D: 3}}[r.Intn(3)]
		d.Reaches[i].Siphon, d.Reaches[i].Cap = r.Intn(2)*r.Intn(20), 20+r.Intn(40)
	}
	return d, []int{r.Intn(9), r.Intn(9), r.Intn(9), r.Intn(9)}
}

// P46.4, P46.5 and P46.7: nobody else is harmed, the most, and back again.
func TestLaws(t *testing.T) {
	r := rand.New(rand.NewSource(46))
	for range 500 {
		d, awards := random(r)
		heads, _, _ := division.Needs(d, awards)
		from := r.Intn(4)
		to := (from + 1 + r.Intn(3)) % 4
		litres := r.Intn(awards[from] + 1)
		got, next, e := Move(d, awards, from, to, litres)
		cut, f := division.Divide(d, next, heads[0])
		if e != api.OK || f != api.OK || !slices.Equal(cut.Awards, next) {
			t.Fatalf("%v becomes %v, of which %v is divided", awards, next, cut.Awards)
		}
		for i := range next {
			if i != from && i != to && next[i] != awards[i] {
				t.Fatal("another farm")
			}
		}
		more := slices.Clone(next)
		more[to]++
		if isHarmless(d, heads, more) {
			t.Fatal("more is harmless")
		}
		if less, _, _ := Move(d, awards, from, to, litres-r.Intn(litres+1)); less > got {
			t.Fatal("whoever gives up less")
		}
		siphons := slices.ContainsFunc(d.Reaches, func(x api.Reach) bool { return x.Siphon > 0 })
		if back, _, e := Move(d, next, to, from, got); e != api.OK || !siphons && back > litres {
			t.Fatalf("%d litres come back of %d", back, litres)
		}
	}
}

// P46.6: seniority travels.
func TestSeniority(t *testing.T) {
	r := rand.New(rand.NewSource(47))
	for range 500 {
		var l []api.Claim
		has := 0
		for rank := range 3 {
			for farm := range 3 {
				if r.Intn(2) == 0 {
					l = append(l, claim(0, rank, rank, farm, 1+r.Intn(9)))
					if farm == 0 {
						has += l[len(l)-1].Litres
					}
				}
			}
		}
		if has == 0 {
			continue
		}
		litres, got := 1+r.Intn(has), r.Intn(30)
		y, e := Retitle(l, 0, 1, 0, litres, got)
		before, after := map[title]int{}, map[title]int{}
		sums := [3]int{}
		for _, c := range l {
			before[titleOf(c)] = c.Litres
			sums[c.Farm] -= c.Litres
		}
		for _, c := range y {
			after[titleOf(c)] = c.Litres
			sums[c.Farm] += c.Litres
		}
		if e != api.OK || sums != [3]int{-litres, got, 0} {
			t.Fatalf("%v, %d", sums, e)
		}
		for x, n := range after {
			source := x
			source.farm = 0
			if x.farm == 1 && n > before[x] && after[source] == before[source] || x.farm == 2 && n != before[x] {
				t.Fatalf("%v gains", x)
			}
		}
	}
}

// P46.7: deals for another rain can be left out.
func TestOtherRain(t *testing.T) {
	r := rand.New(rand.NewSource(48))
	for range 300 {
		d, awards := random(r)
		var deals []api.Deal
		for range r.Intn(5) {
			from := r.Intn(4)
			lo := r.Intn(10)
			deals = append(deals, deal(from, (from+1+r.Intn(3))%4, r.Intn(9), lo, lo+r.Intn(5)))
		}
		rain := r.Intn(12)
		got, next, e := Execute(d, awards, deals, rain)
		fewer := slices.DeleteFunc(slices.Clone(deals), func(x api.Deal) bool { return rain < x.Rain.Lo || rain > x.Rain.Hi })
		less, same, f := Execute(d, awards, fewer, rain)
		sum := 0
		for i, n := range got {
			if sum += n; n > 0 && (rain < deals[i].Rain.Lo || rain > deals[i].Rain.Hi) {
				t.Fatalf("%v is executed", deals[i])
			}
		}
		for _, n := range less {
			sum -= n
		}
		if e != api.OK || f != api.OK || !slices.Equal(next, same) || sum != 0 {
			t.Fatalf("%v, %v", next, same)
		}
	}
}
