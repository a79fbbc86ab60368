package timetable

import (
	"math/rand"
	"reflect"
	"slices"
	"testing"

	"acequia/api"
	"acequia/losses"
)

// district has the reaches 0, 1 and 2 (both below 0), and 3 below 1, which lose 2 litres of a parcel at most, a farm at each, and rights of the ranks 0 to 3.
func district() api.District {
	d := api.District{Hours: 12, Tank: api.Tank{Cap: 1000, Start: 500}}
	for i, up := range []int{-1, 0, 0, 1} {
		d.Reaches = append(d.Reaches, api.Reach{Up: up, Delay: 1 + i%2, Cap: 100, Bank: 150, Evap: api.Range{Hi: 2}, Seep: [2]api.Ratio{{D: 1}, {D: 1}}})
		d.Farms = append(d.Farms, api.Farm{Reach: i, Crop: -1})
		d.Rights = append(d.Rights, api.Right{Kind: api.TakeR, Farm: i, Rank: (i * 3) % 4, Litres: 5, To: 11, Every: 1, Length: 1})
	}
	return d
}

func claim(right, farm, hour, litres int) api.Claim {
	return api.Claim{Right: right, Farm: farm, Hour: hour, Litres: litres, Rank: (right * 3) % 4}
}

// P27.1: a small timetable, written out.
func TestMake(t *testing.T) {
	d := district()
	c := []api.Claim{claim(0, 0, 6, 1), claim(3, 0, 6, 2), claim(3, 3, 6, 10), claim(2, 2, 7, 4)}
	want := []api.Order{{Hour: 1, Index: 0, Litres: 16}, {Hour: 2, Index: 1, Litres: 14}, {Hour: 4, Index: 3, Litres: 12}, {Hour: 5, Index: 0, Litres: 11}, {Hour: 6, Index: 2, Litres: 6},
		{Hour: 6, Index: 0, Litres: 3, Outlet: true}, {Hour: 6, Index: 3, Litres: 10, Outlet: true}, {Hour: 7, Index: 2, Litres: 4, Outlet: true}}
	if l, ok, e := Make(d, c); e != api.OK || !ok || !reflect.DeepEqual(l, want) {
		t.Errorf("Make = %v, %v, %d", l, ok, e)
	}
	for i, x := range []struct {
		change func(d *api.District)
		ok     bool
	}{
		{func(d *api.District) { d.Tank.Start = 27 }, true}, {func(d *api.District) { d.Tank.Start = 26 }, false}, {func(d *api.District) { d.Reaches[3].Cap = 11 }, false}, {func(d *api.District) { d.Reaches[3].Cap = 12 }, true}, {func(d *api.District) { d.Reaches[1].Bank = 13 }, false},
	} {
		d := district()
		x.change(&d)
		if l, ok, e := Make(d, c); e != api.OK || ok != x.ok || !ok && l != nil {
			t.Errorf("change %d: %v, %d", i, ok, e)
		}
	}
	if l, ok, e := Make(d, nil); len(l) != 0 || !ok || e != api.OK {
		t.Error("no claims")
	}
}

// P27.1 to P27.3: errors of all functions.
func TestErrors(t *testing.T) {
	d, wide := district(), district()
	wide.Hours = 257
	for i, x := range []struct {
		d    api.District
		c    []api.Claim
		want api.Errno
	}{
		{api.District{}, nil, api.ErrDistrict}, {d, []api.Claim{claim(0, 0, 1, 0)}, api.ErrClaim}, {wide, nil, api.ErrLimit}, {wide, []api.Claim{claim(0, 0, 1, 0)}, api.ErrClaim}, {d, []api.Claim{claim(0, 0, 1, 1<<30), claim(3, 0, 1, 1)}, api.ErrOrders}, {d, []api.Claim{claim(0, 0, 1, 1<<30)}, api.OK},
	} {
		l, ok, e1 := Make(x.d, x.c)
		f, bad, e2 := Limit(x.d, x.c)
		s, e3 := Served(x.d, x.c)
		if e1 != x.want || e2 != x.want || e3 != x.want || e1 != api.OK && (l != nil || ok || f != api.Fault{} || bad || s != nil) {
			t.Errorf("case %d: %d, %d, %d, want %d", i, e1, e2, e3, x.want)
		}
	}
}

// P27.1 and P27.3: too many orders together.
func TestManyOrders(t *testing.T) {
	d := district()
	d.Hours = 16
	for range 500 {
		d.Farms = append(d.Farms, api.Farm{Crop: -1})
	}
	var c []api.Claim
	for hour := 5; len(c) < 4095; hour++ {
		for farm := range min(504, 4095-len(c)) {
			c = append(c, claim(0, farm, hour, 1))
		}
	}
	if _, _, e := Make(d, c); e != api.ErrLimit {
		t.Errorf("Make: %d", e)
	}
	if _, _, e := Limit(d, c); e != api.ErrLimit {
		t.Errorf("Limit: %d", e)
	}
	d.Tank = api.Tank{Cap: 1 << 20, Start: 1 << 20}
	for i := range d.Reaches {
		d.Reaches[i].Cap, d.Reaches[i].Bank = 1<<20, 1<<20
	}
	s, e := Served(d, c)
	if l, ok, f := Make(d, s); e != api.OK || f != api.OK || !ok || len(s) < 4000 || len(l) > 4096 {
		t.Errorf("Served keeps %d, %d orders: %d, %d", len(s), len(l), e, f)
	}
}

// P27.2: each kind of fault, and their order.
func TestLimit(t *testing.T) {
	for i, x := range []struct {
		change func(d *api.District)
		c      []api.Claim
		want   api.Fault
	}{
		{func(d *api.District) {}, []api.Claim{claim(0, 0, 0, 3)}, api.Fault{Kind: api.LateF, Litres: 3}},
		{func(d *api.District) {}, []api.Claim{claim(0, 0, 0, 3), claim(3, 3, 0, 1)}, api.Fault{Kind: api.LateF, Index: 3, Litres: 1}},
		{func(d *api.District) {}, []api.Claim{claim(3, 3, 4, 5)}, api.Fault{Kind: api.LateF, Index: 0, Litres: 9}},
		{func(d *api.District) { d.Reaches[3].Cap = 6 }, []api.Claim{claim(3, 3, 4, 5)}, api.Fault{Kind: api.LateF, Litres: 9}},
		{func(d *api.District) {}, []api.Claim{claim(0, 0, 4, 1<<30)}, api.Fault{Kind: api.LateF, Hour: 4, Litres: 1 << 30}},
		{func(d *api.District) { d.Reaches[3].Cap = 6 }, []api.Claim{claim(3, 3, 7, 5)}, api.Fault{Kind: api.GateF, Hour: 5, Index: 3, Litres: 7, Limit: 6}},
		{func(d *api.District) { d.Reaches[3].Cap, d.Reaches[3].Bank = 6, 6 }, []api.Claim{claim(3, 3, 7, 5)}, api.Fault{Kind: api.GateF, Hour: 5, Index: 3, Litres: 7, Limit: 6}},
		{func(d *api.District) { d.Reaches[3].Bank = 13 }, []api.Claim{claim(3, 3, 7, 5), claim(3, 3, 8, 5)}, api.Fault{Kind: api.BankF, Hour: 6, Index: 3, Litres: 14, Limit: 13}},
		{func(d *api.District) { d.Reaches[3].Bank, d.Reaches[0].Cap = 13, 10 }, []api.Claim{claim(3, 3, 7, 5), claim(3, 3, 8, 5)}, api.Fault{Kind: api.GateF, Hour: 2, Litres: 11, Limit: 10}},
		{func(d *api.District) { d.Tank.Start = 21 }, []api.Claim{claim(3, 3, 7, 5), claim(3, 3, 8, 5)}, api.Fault{Kind: api.TankF, Litres: 22, Limit: 21}},
		{func(d *api.District) { d.Tank.Start, d.Reaches[2].Cap = 1, 1 }, []api.Claim{claim(2, 2, 7, 5)}, api.Fault{Kind: api.GateF, Hour: 6, Index: 2, Litres: 7, Limit: 1}},
	} {
		d := district()
		x.change(&d)
		if f, ok, e := Limit(d, x.c); f != x.want || !ok || e != api.OK {
			t.Errorf("case %d: %v, %v, %d, want %v", i, f, ok, e, x.want)
		}
	}
	if f, ok, e := Limit(district(), []api.Claim{claim(0, 0, 1, 1)}); ok || f != (api.Fault{}) || e != api.OK {
		t.Error("claims that are served")
	}
}

// P27.3: the senior claim is kept.
func TestServed(t *testing.T) {
	d := district()
	d.Reaches[0].Cap = 10
	c := []api.Claim{claim(0, 0, 5, 6), claim(3, 0, 5, 6)}
	if s, e := Served(d, c); e != api.OK || !reflect.DeepEqual(s, c[:1]) {
		t.Errorf("Served = %v", s)
	}
	c[0].Litres = 9
	if s, _ := Served(d, c); !reflect.DeepEqual(s, c[1:]) {
		t.Errorf("Served = %v", s)
	}
	if s, e := Served(d, nil); e != api.OK || len(s) != 0 {
		t.Error("no claims")
	}
}

func random(r *rand.Rand) (api.District, []api.Claim) {
	d := district()
	d.Tank.Start = 20 + r.Intn(300)
	for i := range d.Reaches {
		d.Reaches[i].Siphon = r.Intn(8)
		d.Reaches[i].Cap, d.Reaches[i].Bank = 8+r.Intn(60), 8+r.Intn(90)
		d.Reaches[i].Seep[1] = []api.Ratio{{D: 1}, {N: 1, D: 10}, {N: 1, D: 2}}[r.Intn(3)]
	}
	var c []api.Claim
	for hour := 3; hour < 12; hour++ {
		for right := range d.Rights {
			if r.Intn(3) == 0 {
				c = append(c, claim(right, right, hour, 1+r.Intn(12)))
			}
		}
	}
	slices.SortFunc(c, by(hour, rank, right, farm))
	return d, c
}

// isServed examines orders as the chapter says, forward and apart from how they were made.
func isServed(d api.District, c []api.Claim, l []api.Order) bool {
	type at struct {
		outlet      bool
		index, hour int
	}
	m, tank := map[at]int{}, 0
	for _, o := range l {
		m[at{o.Outlet, o.Index, o.Hour}] = o.Litres
		if !o.Outlet && (o.Litres > d.Reaches[o.Index].Cap || o.Litres < d.Reaches[o.Index].Siphon) {
			return false
		}
		if !o.Outlet && o.Index == 0 {
			tank += o.Litres
		}
	}
	for i, r := range d.Reaches {
		for h := range d.Hours {
			in, drawn := 0, m[at{true, i, h}]
			for k := range r.Delay {
				in += m[at{false, i, h - k}]
			}
			for k, x := range d.Reaches {
				if x.Up == i {
					drawn += m[at{false, k, h}]
				}
			}
			if w, _ := losses.Worst(r, m[at{false, i, h - r.Delay}]); drawn > w || in > r.Bank {
				return false
			}
		}
	}
	for o, litres := range outlets(c) {
		if m[at{true, o.farm, o.hour}] != litres {
			return false
		}
	}
	return tank <= d.Tank.Start
}

// P27.4 to P27.7: surely, the least ones, seniority, fewer claims.
func TestLaws(t *testing.T) {
	r := rand.New(rand.NewSource(27))
	for range 400 {
		d, c := random(r)
		l, ok, e := Make(d, c)
		_, broken, _ := Limit(d, c)
		if e != api.OK || ok == broken || ok && !isServed(d, c, l) {
			t.Fatalf("Make: %v, %v, %d", ok, broken, e)
		}
		s, _ := Served(d, c)
		var slow []api.Claim
		seniors := slices.Clone(c)
		slices.SortFunc(seniors, by(rank, right, farm, hour))
		for _, x := range seniors {
			more := append(slices.Clone(slow), x)
			slices.SortFunc(more, by(hour, rank, right, farm))
			if _, ok, e := Make(d, more); ok && e == api.OK {
				slow = more
			}
		}
		if !slices.Equal(s, slow) || ok && !slices.Equal(s, c) {
			t.Fatalf("Served = %v, want %v", s, slow)
		}
		checkFewer(t, r, d, s)
	}
}

func checkFewer(t *testing.T, r *rand.Rand, d api.District, s []api.Claim) {
	t.Helper()
	all, _, _ := Make(d, s)
	fewer := slices.DeleteFunc(slices.Clone(s), func(api.Claim) bool { return r.Intn(4) == 0 })
	for i := range fewer {
		fewer[i].Litres = 1 + r.Intn(fewer[i].Litres)
	}
	l, ok, e := Make(d, fewer)
	if !ok || e != api.OK {
		t.Fatal("fewer claims")
	}
	for _, o := range l {
		i := slices.IndexFunc(all, func(x api.Order) bool { return x.Hour == o.Hour && x.Index == o.Index && x.Outlet == o.Outlet })
		if i < 0 || all[i].Litres < o.Litres {
			t.Fatalf("a greater order: %v", o)
		}
	}
}

// naive computes what is wanted by the definition, place by place.
type naive struct {
	d      api.District
	orders map[outlet]int
}

// wanted returns what is wanted at the end of a reach, and whether that is known.
func (n naive) wanted(reach, hour int) (litres int, known bool) {
	known = true
	for i, f := range n.d.Farms {
		if f.Reach == reach {
			litres += n.orders[outlet{i, hour}]
		}
	}
	for i, r := range n.d.Reaches {
		if r.Up == reach {
			v, ok := n.parcel(i, hour+r.Delay)
			litres, known = litres+v, known && ok
		}
	}
	return litres, known
}

// parcel returns the parcel that serves a reach and an hour, and whether it exists (as far as it is needed).
func (n naive) parcel(reach, hour int) (litres int, ok bool) {
	if hour >= n.d.Hours {
		return 0, true
	}
	w, known := n.wanted(reach, hour)
	r := n.d.Reaches[reach]
	if !known || w == 0 {
		return 0, known
	}
	v, found, e := losses.Need(r, min(w, 1<<30))
	return max(v, r.Siphon), e == api.OK && found && w <= 1<<30 && hour >= r.Delay
}

// limit returns the first fault, looked for in the order of the chapter.
func (n naive) limit() (f api.Fault) {
	reaches := len(n.d.Reaches)
	for hour := range n.d.Hours {
		for reach := reaches - 1; reach >= 0; reach-- {
			w, known := n.wanted(reach, hour)
			if _, ok := n.parcel(reach, hour); known && w > 0 && !ok {
				return api.Fault{Kind: api.LateF, Hour: hour, Index: reach, Litres: w}
			}
		}
	}
	tank := 0
	for hour := range n.d.Hours {
		for reach, r := range n.d.Reaches {
			sum := 0
			for k := range r.Delay {
				if hour >= k {
					v, _ := n.parcel(reach, hour-k+r.Delay)
					sum += v
				}
			}
			v, _ := n.parcel(reach, hour+r.Delay)
			if reach == 0 {
				tank += v
			}
			if v > r.Cap {
				return api.Fault{Kind: api.GateF, Hour: hour, Index: reach, Litres: v, Limit: r.Cap}
			}
			if sum > r.Bank {
				return api.Fault{Kind: api.BankF, Hour: hour, Index: reach, Litres: sum, Limit: r.Bank}
			}
		}
	}
	if tank > n.d.Tank.Start {
		return api.Fault{Kind: api.TankF, Litres: tank, Limit: n.d.Tank.Start}
	}
	return f
}

// P27.2: the first fault, by the definition.
func TestFirstFault(t *testing.T) {
	r := rand.New(rand.NewSource(28))
	kinds := map[int]int{}
	for range 500 {
		d, c := random(r)
		c = slices.DeleteFunc(c, func(api.Claim) bool { return r.Intn(2) == 0 })
		for i := range c {
			if c[i].Hour = max(0, c[i].Hour-r.Intn(2)); i > 0 && c[i].Hour < c[i-1].Hour {
				c[i].Hour = c[i-1].Hour
			}
		}
		slices.SortFunc(c, by(hour, rank, right, farm))
		c = slices.CompactFunc(c, func(a, b api.Claim) bool { return a.Hour == b.Hour && a.Right == b.Right })
		f, ok, e := Limit(d, c)
		want := naive{d, outlets(c)}.limit()
		kinds[f.Kind]++
		if e != api.OK || f != want || ok != (want.Kind != 0) {
			t.Fatalf("Limit = %v, %d, want %v", f, e, want)
		}
	}
	for _, kind := range []int{0, api.LateF, api.GateF, api.BankF, api.TankF} {
		if kinds[kind] < 5 {
			t.Errorf("only %d faults of the kind %d", kinds[kind], kind)
		}
	}
}
