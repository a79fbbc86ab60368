package routing

import (
	"math/rand"
	"reflect"
	"slices"
	"testing"

	"acequia/api"
	"acequia/losses"
)

// district has reaches that lose 2 litres of each parcel at most: 0, with 1 and 2 below it, and 3 below 1; a farm at the end of each.
func district() api.District {
	d := api.District{Hours: 12, Tank: api.Tank{Cap: 1000, Start: 1000}}
	for i, up := range []int{-1, 0, 0, 1} {
		d.Reaches = append(d.Reaches, api.Reach{Up: up, Delay: 1 + i%2, Cap: 100, Bank: 150, Evap: api.Range{Hi: 2}, Seep: [2]api.Ratio{{D: 1}, {D: 1}}})
		d.Farms = append(d.Farms, api.Farm{Reach: i, Crop: -1})
	}
	return d
}

func gate(hour, reach, litres int) api.Order {
	return api.Order{Hour: hour, Index: reach, Litres: litres}
}
func outlet(hour, farm, litres int) api.Order {
	return api.Order{Hour: hour, Index: farm, Litres: litres, Outlet: true}
}

// P22.1: along paths, with siphons.
func TestWorstAndNeed(t *testing.T) {
	d := district()
	for _, x := range []struct{ reach, v, w int }{{1, 9, 5}, {1, 4, 0}, {0, 9, 7}, {3, 100, 94}, {0, 0, 0}} {
		if w, e := Worst(d, x.reach, x.v); w != x.w || e != api.OK {
			t.Errorf("Worst(%d, %d) = %d, %d", x.reach, x.v, w, e)
		}
	}
	if v, ok, e := Need(d, 1, 5); v != 9 || !ok || e != api.OK {
		t.Errorf("Need = %d", v)
	}
	d.Reaches[1].Siphon = 20
	for _, x := range []struct{ reach, v, w int }{{1, 21, 0}, {1, 22, 18}, {3, 22, 16}, {2, 21, 17}} {
		if w, e := Worst(d, x.reach, x.v); w != x.w || e != api.OK {
			t.Errorf("Worst(%d, %d) = %d, %d", x.reach, x.v, w, e)
		}
	}
	if v, ok, _ := Need(d, 3, 1); v != 22 || !ok {
		t.Errorf("Need through a siphon = %d", v)
	}
	if v, ok, e := Need(d, 3, 0); v != 0 || !ok || e != api.OK {
		t.Error("Need of nothing")
	}
	if v, ok, e := Need(d, 3, 1<<30); v != 0 || ok || e != api.OK {
		t.Error("Need of too much")
	}
	for _, x := range []struct {
		d        api.District
		reach, n int
		want     api.Errno
	}{{api.District{}, 9, -1, api.ErrDistrict}, {d, -1, 0, api.ErrArg}, {d, 4, 0, api.ErrArg}, {d, 0, -1, api.ErrArg}, {d, 0, 1<<30 + 1, api.ErrArg}} {
		w, e := Worst(x.d, x.reach, x.n)
		v, ok, f := Need(x.d, x.reach, x.n)
		if e != x.want || f != x.want || w != 0 || v != 0 || ok {
			t.Errorf("%d, %d, want %d", e, f, x.want)
		}
	}
}

// P22.2: valid orders.
func TestCheck(t *testing.T) {
	d := district()
	good := []api.Order{gate(0, 0, 5), gate(0, 3, 5), outlet(0, 0, 1<<30), gate(1, 0, 1), outlet(11, 3, 1)}
	if e := Check(d, good); e != api.OK {
		t.Errorf("Check: %d", e)
	}
	for i, l := range [][]api.Order{
		{gate(-1, 0, 1)}, {gate(12, 0, 1)}, {gate(0, 0, 0)}, {gate(0, 0, 1<<30+1)}, {gate(0, 4, 1)}, {outlet(0, 4, 1)}, {gate(0, -1, 1)}, {gate(1, 0, 1), gate(0, 0, 1)}, {gate(0, 0, 1), gate(0, 0, 2)}, {outlet(0, 0, 1), gate(0, 1, 1)}, {gate(0, 2, 1), gate(0, 1, 1)},
	} {
		_, _, e1 := Plan(d, l)
		_, e2 := Load(d, l, 0, 0)
		_, _, _, e3 := Fits(d, l)
		if e := Check(d, l); e != api.ErrRoute || e1 != e || e2 != e || e3 != e {
			t.Errorf("orders %d: %d, %d, %d, %d", i, e, e1, e2, e3)
		}
	}
	if Check(d, make([]api.Order, 4097)) != api.ErrLimit || Check(d, make([]api.Order, 4096)) != api.ErrRoute || Check(api.District{}, make([]api.Order, 4097)) != api.ErrDistrict {
		t.Error("limits")
	}
	d.Hours = 257
	_, _, e1 := Plan(d, nil)
	_, e2 := Load(d, nil, 9, 9)
	_, _, _, e3 := Fits(d, nil)
	if e1 != api.ErrLimit || e2 != api.ErrLimit || e3 != api.ErrLimit || Check(d, nil) != api.OK {
		t.Error("a wide district")
	}
}

// P22.2: a small schedule, written out.
func TestPlan(t *testing.T) {
	d := district()
	out := []api.Order{outlet(6, 0, 3), outlet(6, 3, 10), outlet(7, 2, 4)}
	want := []api.Order{gate(1, 0, 16), gate(2, 1, 14), gate(4, 3, 12), gate(5, 0, 11), gate(6, 2, 6), outlet(6, 0, 3), outlet(6, 3, 10), outlet(7, 2, 4)}
	l, ok, e := Plan(d, out)
	if e != api.OK || !ok || !reflect.DeepEqual(l, want) {
		t.Errorf("Plan = %v", l)
	}
	if l, ok, e := Plan(d, nil); len(l) != 0 || !ok || e != api.OK {
		t.Error("no outlet orders")
	}
	for i, out := range [][]api.Order{{outlet(4, 3, 1)}, {outlet(0, 0, 1)}, {outlet(6, 0, 1<<30)}} {
		if l, ok, e := Plan(d, out); len(l) != 0 || ok || e != api.OK {
			t.Errorf("case %d: %v, %v, %d", i, l, ok, e)
		}
	}
	if _, _, e := Plan(d, []api.Order{gate(0, 0, 1)}); e != api.ErrRoute {
		t.Error("a gate order")
	}
	many := district()
	for range 500 {
		many.Farms = append(many.Farms, api.Farm{Crop: -1})
	}
	var orders []api.Order
	for hour := 5; len(orders) < 4095; hour++ {
		for farm := range min(504, 4095-len(orders)) {
			orders = append(orders, outlet(hour, farm, 1))
		}
	}
	many.Hours = 14
	if l, _, e := Plan(many, orders[:4000]); e != api.OK || len(l) <= 4000 {
		t.Errorf("%d orders: %d", len(l), e)
	}
	if l, ok, e := Plan(many, orders); e != api.ErrLimit || ok || l != nil {
		t.Errorf("%d orders: %d", len(l), e)
	}
}

// P22.3: loads and limits.
func TestLoadAndFits(t *testing.T) {
	d := district()
	d.Reaches[1].Bank = 10
	l := []api.Order{gate(3, 1, 6), outlet(3, 1, 99), gate(4, 1, 6), gate(6, 0, 101)}
	for hour, want := range []int{0, 0, 0, 6, 12, 6, 0} {
		if n, e := Load(d, l, 1, hour); n != want || e != api.OK {
			t.Errorf("Load at %d = %d", hour, n)
		}
	}
	for _, x := range []struct {
		l           []api.Order
		ok          bool
		hour, reach int
	}{{l, false, 4, 1}, {l[:2], true, 0, 0}, {l[3:], false, 6, 0}, {nil, true, 0, 0}, {[]api.Order{gate(2, 2, 101), gate(2, 3, 101)}, false, 2, 2}} {
		if ok, hour, reach, e := Fits(d, x.l); ok != x.ok || hour != x.hour || reach != x.reach || e != api.OK {
			t.Errorf("Fits = %v, %d, %d", ok, hour, reach)
		}
	}
	for _, x := range [][2]int{{-1, 0}, {4, 0}, {0, -1}, {0, 12}} {
		if n, e := Load(d, l, x[0], x[1]); e != api.ErrArg || n != 0 {
			t.Errorf("Load(%v)", x)
		}
	}
}

func random(r *rand.Rand) (api.District, []api.Order) {
	d := district()
	for i := range d.Reaches {
		d.Reaches[i].Siphon = r.Intn(8)
		d.Reaches[i].Seep[1] = []api.Ratio{{D: 1}, {N: 1, D: 10}, {N: 1, D: 2}}[r.Intn(3)]
	}
	var out []api.Order
	for hour := 6; hour < 12; hour++ {
		for farm := range d.Farms {
			if r.Intn(6) == 0 {
				out = append(out, outlet(hour, farm, 1+r.Intn(30)))
			}
		}
	}
	return d, out
}

// P22.4: the demand arrives at worst with the planned orders, and with no lesser ones.
func TestLeast(t *testing.T) {
	r := rand.New(rand.NewSource(22))
	for range 300 {
		d, out := random(r)
		l, ok, e := Plan(d, out)
		if e != api.OK || !ok || Check(d, l) != api.OK {
			t.Fatalf("Plan: %v, %d", ok, e)
		}
		gates := gateOrders(l)
		demand := map[place]int{}
		for _, o := range l {
			if o.Outlet {
				demand[place{d.Farms[o.Index].Reach, o.Hour}] += o.Litres
			} else if up := d.Reaches[o.Index].Up; up >= 0 {
				demand[place{up, o.Hour}] += o.Litres
			}
		}
		for at := range upwards(d) {
			x := d.Reaches[at[0]]
			v := gates[place{at[0], at[1] - x.Delay}]
			w, _ := losses.Worst(x, v)
			if w < demand[at] || v > 0 && v < x.Siphon {
				t.Fatalf("at %v arrive %d of %d", at, w, demand[at])
			}
			if v > 0 {
				if w, _ := losses.Worst(x, v-1); v > x.Siphon && w >= demand[at] || demand[at] == 0 {
					t.Fatalf("at %v less is enough", at)
				}
			}
		}
	}
}

// P22.5: along a path. P22.6: fewer orders, and two parts.
func TestConsequences(t *testing.T) {
	r := rand.New(rand.NewSource(23))
	for range 300 {
		d, out := random(r)
		reach, w := r.Intn(4), 1+r.Intn(40)
		need, _, _ := Need(d, reach, w)
		for v := range 400 {
			if got, _ := Worst(d, reach, v); (got >= w) != (v >= need) {
				t.Fatalf("%d of %d", got, v)
			}
		}
		single, _, _ := Plan(d, []api.Order{outlet(8, reach, w)})
		if single[0].Index != 0 || single[0].Litres != need {
			t.Fatalf("a single order: %v", single)
		}
		var a, b []api.Order
		for _, o := range out {
			if r.Intn(2) == 0 {
				a = append(a, o)
			} else {
				b = append(b, o)
			}
		}
		all, _, _ := Plan(d, out)
		la, _, _ := Plan(d, a)
		lb, _, _ := Plan(d, b)
		whole, ga, gb := gateOrders(all), gateOrders(la), gateOrders(lb)
		for at := range upwards(d) {
			if ga[at] > whole[at] || whole[at] > ga[at]+gb[at] {
				t.Fatalf("%d, %d and %d", whole[at], ga[at], gb[at])
			}
		}
		if fits, _, _, _ := Fits(d, all); fits {
			fewer := slices.Clone(all)
			for i := range fewer {
				fewer[i].Litres = 1 + r.Intn(fewer[i].Litres)
			}
			if ok, _, _, e := Fits(d, fewer); !ok || e != api.OK {
				t.Fatal("smaller orders")
			}
		}
	}
}
