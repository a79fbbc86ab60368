package certify

import (
	"math/rand"
	"reflect"
	"slices"
	"testing"

	"acequia/api"
	"acequia/timetable"
)

func district() api.District {
	d := api.District{Hours: 12, Tank: api.Tank{Cap: 1000, Start: 500}}
	for i, up := range []int{-1, 0, 0, 1} {
		d.Reaches = append(d.Reaches, api.Reach{Up: up, Delay: 1 + i%2, Cap: 100, Bank: 150, Evap: api.Range{Hi: 2}, Seep: [2]api.Ratio{{D: 1}, {D: 1}}})
		d.Farms = append(d.Farms, api.Farm{Reach: i, Crop: -1})
		d.Rights = append(d.Rights, api.Right{Kind: api.TakeR, Farm: i, Litres: 5, To: 11, Every: 1, Length: 1})
	}
	return d
}

func claim(right, hour, litres int) api.Claim {
	return api.Claim{Right: right, Farm: right, Hour: hour, Litres: litres}
}

func gate(hour, reach, litres int) api.Order {
	return api.Order{Hour: hour, Index: reach, Litres: litres}
}

func outlet(hour, farm, litres int) api.Order {
	return api.Order{Hour: hour, Index: farm, Litres: litres, Outlet: true}
}

// P28.1: each kind of fault.
func TestFaults(t *testing.T) {
	f := func(kind, hour, index, litres, limit int) api.Fault {
		return api.Fault{Kind: kind, Hour: hour, Index: index, Litres: litres, Limit: limit}
	}
	for i, x := range []struct {
		change func(d *api.District)
		c      []api.Claim
		l      []api.Order
		want   []api.Fault
	}{
		{nil, nil, nil, nil},
		{nil, []api.Claim{claim(0, 3, 5)}, nil, []api.Fault{f(api.ClaimF, 3, 0, 0, 5)}},
		{nil, []api.Claim{claim(0, 3, 5)}, []api.Order{gate(2, 0, 7), outlet(3, 0, 5)}, nil},
		{nil, []api.Claim{claim(0, 3, 5)}, []api.Order{gate(2, 0, 6), outlet(3, 0, 5)}, []api.Fault{f(api.WaterF, 3, 0, 5, 4)}},
		{nil, []api.Claim{claim(0, 3, 5)}, []api.Order{gate(2, 0, 50), outlet(3, 0, 4)}, []api.Fault{f(api.ClaimF, 3, 0, 4, 5)}},
		{nil, []api.Claim{{Farm: 1, Hour: 3, Litres: 5}, claim(1, 3, 6)}, nil, []api.Fault{f(api.ClaimF, 3, 1, 0, 11)}},
		{nil, nil, []api.Order{gate(0, 0, 101), gate(4, 3, 102)}, []api.Fault{f(api.GateF, 0, 0, 101, 100), f(api.GateF, 4, 3, 102, 100), f(api.WaterF, 4, 1, 102, 0)}},
		{func(d *api.District) { d.Reaches[0].Siphon = 9 }, nil, []api.Order{gate(0, 0, 8), gate(1, 0, 9)}, []api.Fault{f(api.SiphonF, 0, 0, 8, 9)}},
		{func(d *api.District) { d.Reaches[1].Bank = 9 }, nil, []api.Order{gate(0, 0, 90), gate(1, 0, 90), gate(1, 1, 5), gate(2, 1, 5)}, []api.Fault{f(api.BankF, 2, 1, 10, 9)}},
		{func(d *api.District) { d.Tank.Start = 10 }, nil, []api.Order{gate(0, 0, 5), gate(3, 0, 5), gate(4, 0, 1), gate(5, 0, 9)}, []api.Fault{f(api.TankF, 4, 0, 11, 10)}},
		{nil, nil, []api.Order{gate(0, 0, 12), gate(1, 1, 5), gate(1, 2, 6), outlet(1, 0, 1)}, []api.Fault{f(api.WaterF, 1, 0, 12, 10)}},
		{func(d *api.District) { d.Tank.Start = 3 }, []api.Claim{claim(0, 0, 1), claim(2, 0, 1)}, []api.Order{gate(0, 0, 200)}, []api.Fault{f(api.GateF, 0, 0, 200, 100), f(api.BankF, 0, 0, 200, 150), f(api.TankF, 0, 0, 200, 3), f(api.ClaimF, 0, 0, 0, 1), f(api.ClaimF, 0, 2, 0, 1)}},
	} {
		d := district()
		if x.change != nil {
			x.change(&d)
		}
		got, e := Faults(d, x.c, x.l)
		ok, g := Accepts(d, x.c, x.l)
		if e != api.OK || g != api.OK || !slices.Equal(got, x.want) || ok != (len(x.want) == 0) {
			t.Errorf("case %d: %v, want %v", i, got, x.want)
		}
	}
}

// P28.1 and P28.2: errors in their order.
func TestErrors(t *testing.T) {
	d, wide := district(), district()
	wide.Hours = 257
	for i, x := range []struct {
		d       api.District
		c       []api.Claim
		l       []api.Order
		want    api.Errno
		arrives api.Errno
	}{
		{api.District{}, nil, nil, api.ErrDistrict, api.ErrDistrict}, {wide, []api.Claim{claim(0, 0, 0)}, nil, api.ErrClaim, api.ErrLimit}, {wide, nil, []api.Order{gate(-1, 0, 1)}, api.ErrLimit, api.ErrLimit}, {d, nil, make([]api.Order, 4097), api.ErrLimit, api.ErrLimit},
		{d, nil, []api.Order{gate(-1, 0, 1)}, api.ErrCertify, api.ErrCertify}, {d, nil, []api.Order{outlet(1, 0, 1), gate(1, 0, 1)}, api.ErrCertify, api.ErrCertify}, {d, nil, []api.Order{gate(0, 0, 1<<30+1)}, api.ErrCertify, api.ErrCertify}, {d, nil, nil, api.OK, api.ErrArg},
	} {
		f, e := Faults(x.d, x.c, x.l)
		ok, g := Accepts(x.d, x.c, x.l)
		_, h := Arrive(x.d, x.l, -1, 0)
		if e != x.want || g != x.want || h != x.arrives || e != api.OK && (f != nil || ok) {
			t.Errorf("case %d: %d, %d, %d", i, e, g, h)
		}
	}
	for _, x := range [][2]int{{4, 0}, {-1, 0}, {0, -1}, {0, 12}} {
		if n, e := Arrive(d, nil, x[0], x[1]); e != api.ErrArg || n != 0 {
			t.Errorf("Arrive(%v)", x)
		}
	}
}

// P28.2: what arrives at worst.
func TestArrive(t *testing.T) {
	d := district()
	l := []api.Order{gate(0, 0, 10), gate(1, 1, 7), gate(1, 2, 1)}
	for _, x := range []struct{ reach, hour, want int }{{0, 0, 0}, {0, 1, 8}, {0, 2, 0}, {1, 3, 5}, {1, 2, 0}, {2, 2, 0}, {3, 11, 0}} {
		if n, e := Arrive(d, l, x.reach, x.hour); n != x.want || e != api.OK {
			t.Errorf("Arrive(%d, %d) = %d", x.reach, x.hour, n)
		}
	}
}

// P28.3 to P28.5: what is made is accepted, nothing lesser is, and more room does no harm.
func TestLaws(t *testing.T) {
	r := rand.New(rand.NewSource(28))
	for range 300 {
		d := district()
		d.Tank.Start = 50 + r.Intn(300)
		for i := range d.Reaches {
			d.Reaches[i].Siphon, d.Reaches[i].Cap, d.Reaches[i].Bank = r.Intn(8), 8+r.Intn(90), 8+r.Intn(150)
			d.Reaches[i].Seep[1] = []api.Ratio{{D: 1}, {N: 1, D: 10}, {N: 1, D: 2}}[r.Intn(3)]
		}
		var c []api.Claim
		for hour := 3; hour < 12; hour++ {
			for right := range d.Rights {
				if r.Intn(5) == 0 {
					c = append(c, claim(right, hour, 1+r.Intn(12)))
				}
			}
		}
		l, ok, e := timetable.Make(d, c)
		if e != api.OK || !ok {
			continue
		}
		if ok, e := Accepts(d, c, l); !ok || e != api.OK {
			t.Fatal("a timetable is not accepted")
		}
		for i := range l {
			fewer := slices.Clone(l)
			if fewer[i].Litres--; fewer[i].Litres == 0 {
				continue
			}
			if ok, _ := Accepts(d, c, fewer); ok {
				t.Fatal("less is accepted")
			}
		}
		wider := d
		wider.Tank.Start++
		wider.Reaches = slices.Clone(d.Reaches)
		for i := range wider.Reaches {
			wider.Reaches[i].Cap += r.Intn(3)
			wider.Reaches[i].Bank += r.Intn(3)
		}
		if ok, _ := Accepts(wider, c[:r.Intn(len(c)+1)], l); !ok {
			t.Fatal("more room does harm")
		}
		checkLosses(t, r, d, l)
	}
}

// checkLosses plays the orders with losses within their intervals.
func checkLosses(t *testing.T, r *rand.Rand, d api.District, l []api.Order) {
	t.Helper()
	x := planOf(d, l)
	for hour := range d.Hours {
		drawn := x.drawn(hour)
		for i, reach := range d.Reaches {
			v := x.orders[opening{false, i, hour - reach.Delay}]
			seep := reach.Seep[1]
			most := min(v, 2+(v*seep.N+seep.D-1)/seep.D)
			if v-r.Intn(most+1) < drawn[i] {
				t.Fatalf("too little at %d in the hour %d", i, hour)
			}
		}
	}
	if reflect.DeepEqual(l, []api.Order{}) {
		t.Fatal("no orders")
	}
}

// P28.5: of each fault the litres are on the wrong side of the limit. P28.4: what is accepted for claims has no order that is less than planned.
func TestSides(t *testing.T) {
	r := rand.New(rand.NewSource(29))
	accepted := 0
	for range 2000 {
		d := district()
		d.Tank.Start = 60 + r.Intn(300)
		for i := range d.Reaches {
			d.Reaches[i].Siphon, d.Reaches[i].Cap, d.Reaches[i].Bank = r.Intn(8), 8+r.Intn(90), 8+r.Intn(150)
		}
		c := []api.Claim{claim(0, 6, 1+r.Intn(9)), claim(3, 7, 1+r.Intn(9))}
		wide := d
		wide.Tank = api.Tank{Cap: 1 << 20, Start: 1 << 20}
		wide.Reaches = slices.Clone(d.Reaches)
		for i := range wide.Reaches {
			wide.Reaches[i].Cap, wide.Reaches[i].Bank = 1<<20, 1<<20
		}
		l, _, _ := timetable.Make(wide, c)
		for i := range l {
			l[i].Litres = max(1, l[i].Litres+r.Intn(5)-1)
		}
		f, e := Faults(d, c, l)
		if e != api.OK {
			t.Fatal(e)
		}
		for _, x := range f {
			if less := x.Kind == api.SiphonF || x.Kind == api.ClaimF; less && x.Litres >= x.Limit || !less && x.Litres <= x.Limit {
				t.Fatalf("%v", x)
			}
		}
		if len(f) > 0 {
			continue
		}
		accepted++
		least, ok, e := timetable.Make(d, c)
		if !ok || e != api.OK {
			t.Fatalf("%v is accepted, but there is no timetable", l)
		}
		for _, o := range least {
			if !slices.ContainsFunc(l, func(x api.Order) bool {
				return x.Hour == o.Hour && x.Index == o.Index && x.Outlet == o.Outlet && x.Litres >= o.Litres
			}) {
				t.Fatalf("%v is not in %v", o, l)
			}
		}
	}
	if accepted < 10 {
		t.Errorf("only %d orders are accepted", accepted)
	}
}
