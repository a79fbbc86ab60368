package balance

import (
	"math/rand"
	"reflect"
	"testing"

	"acequia/api"
	"acequia/losses"
)

// district has two reaches, one below the other, and two farms.
func district() api.District {
	r := func(up, delay int) api.Reach {
		return api.Reach{Up: up, Delay: delay, Cap: 100, Bank: 500, Evap: api.Range{Lo: 1, Hi: 2}, Seep: [2]api.Ratio{{N: 1, D: 10}, {N: 1, D: 4}}}
	}
	return api.District{Hours: 8, Tank: api.Tank{Cap: 200, Start: 100}, Reaches: []api.Reach{r(-1, 2), r(0, 1)}, Farms: []api.Farm{{Reach: 0, Crop: -1}, {Reach: 1, Crop: -1}}}
}

func lists(many, hours int) [][]int {
	l := make([][]int, many)
	for i := range l {
		l[i] = make([]int, hours)
	}
	return l
}

func still(d api.District) api.Run {
	n := len(d.Reaches)
	return api.Run{Inflow: make([]int, d.Hours), Spill: make([]int, d.Hours), In: lists(n, d.Hours), Evap: lists(n, d.Hours), Seep: lists(n, d.Hours), Tail: lists(n, d.Hours), Taken: lists(len(d.Farms), d.Hours)}
}

// small is a right run with a parcel of 20 litres in the hour 1.
func small() api.Run {
	x := still(district())
	x.Inflow[0], x.Spill[1] = 50, 5
	x.In[0][1], x.Evap[0][1], x.Seep[0][1] = 20, 2, 3
	x.In[1][3], x.Taken[0][3], x.Tail[0][3] = 10, 4, 1
	x.Evap[1][3], x.Seep[1][3] = 1, 1
	x.Taken[1][4], x.Tail[1][4] = 8, 0
	x.In[0][7], x.Evap[0][7], x.Seep[0][7] = 10, 1, 1
	return x
}

// random plays a season.
func random(r *rand.Rand) (api.District, api.Run) {
	d := district()
	x := still(d)
	store := d.Tank.Start
	for hour := range d.Hours {
		x.Inflow[hour] = r.Intn(40)
		store += x.Inflow[hour]
		enter := func(reach, v int) {
			x.In[reach][hour] = v
			for v > 0 {
				evap, seep := r.Intn(3), r.Intn(v+1)
				if isAdmissible(d.Reaches[reach], v, evap, seep) {
					x.Evap[reach][hour], x.Seep[reach][hour] = evap, seep
					break
				}
			}
		}
		enter(0, r.Intn(min(store, 60)+1))
		store -= x.In[0][hour]
		x.Spill[hour] = max(0, store-d.Tank.Cap)
		store -= x.Spill[hour]
		for i, entered := range arriving(d, hour) {
			rest := x.In[i][entered] - x.Evap[i][entered] - x.Seep[i][entered]
			if i == 0 {
				enter(1, r.Intn(rest+1))
				rest -= x.In[1][hour]
			}
			x.Taken[i][hour] = r.Intn(rest + 1)
			x.Tail[i][hour] = rest - x.Taken[i][hour]
		}
	}
	return d, x
}

// P23.1: right runs and stores.
func TestCheckAndStore(t *testing.T) {
	d := district()
	if Check(d, small()) != api.OK || Check(d, still(d)) != api.OK {
		t.Fatal("right runs")
	}
	for hour, want := range []int{100, 150, 125, 125, 125, 125, 125, 125, 115} {
		if n, e := Store(d, small(), hour); n != want || e != api.OK {
			t.Errorf("Store(%d) = %d, %d", hour, n, e)
		}
	}
	wide, many := d, d
	wide.Hours, many.Farms = 513, make([]api.Farm, 513)
	for i := range many.Farms {
		many.Farms[i].Crop = -1
	}
	for i, x := range []struct {
		d    api.District
		x    api.Run
		want api.Errno
	}{{api.District{}, api.Run{}, api.ErrDistrict}, {d, api.Run{}, api.ErrBalance}, {wide, api.Run{}, api.ErrLimit}, {many, api.Run{}, api.ErrLimit}} {
		_, e1 := Store(x.d, x.x, -1)
		_, e2 := Accounts(x.d, x.x, -1)
		_, e3 := Moves(x.d, x.x, -1)
		if e := Check(x.d, x.x); e != x.want || e1 != e || e2 != e || e3 != e {
			t.Errorf("case %d: %d, want %d", i, e, x.want)
		}
	}
	for _, hour := range []int{-1, 9} {
		_, e1 := Store(d, small(), hour)
		_, e2 := Accounts(d, small(), hour)
		_, e3 := Moves(d, small(), hour-max(0, hour-8))
		if e1 != api.ErrArg || e2 != api.ErrArg || e3 != api.ErrArg {
			t.Errorf("the hour %d: %d, %d, %d", hour, e1, e2, e3)
		}
	}
}

// P23.1: runs that are not right.
func TestWrongRuns(t *testing.T) {
	d := district()
	for i, change := range []func(x *api.Run){
		func(x *api.Run) { x.Inflow = x.Inflow[1:] }, func(x *api.Run) { x.Spill = nil }, func(x *api.Run) { x.In = x.In[1:] }, func(x *api.Run) { x.Taken = append(x.Taken, make([]int, 8)) }, func(x *api.Run) { x.Tail[1] = x.Tail[1][1:] },
		func(x *api.Run) { x.Inflow[7] = -1 }, func(x *api.Run) { x.Inflow[7] = 1<<30 + 1 }, func(x *api.Run) { x.Inflow[7] = 90 }, func(x *api.Run) { x.Spill[0] = 151 }, func(x *api.Run) { x.Spill[7] = 116 }, func(x *api.Run) { x.Inflow[0] = 101 },
		func(x *api.Run) { x.Seep[0][7] = 0 }, func(x *api.Run) { x.Evap[0][7] = 0 }, func(x *api.Run) { x.Evap[0][7] = 3 }, func(x *api.Run) { x.Seep[0][7] = 4 }, func(x *api.Run) { x.Evap[0][6] = 1 }, func(x *api.Run) { x.In[1][7] = 1 },
		func(x *api.Run) { x.Taken[0][3]++ }, func(x *api.Run) { x.Tail[0][3]-- }, func(x *api.Run) { x.Taken[1][0] = 1 }, func(x *api.Run) { x.Evap[0][1]-- },
	} {
		x := small()
		change(&x)
		if e := Check(d, x); e != api.ErrBalance {
			t.Errorf("change %d: %d", i, e)
		}
	}
	for _, x := range []struct {
		v, evap, seep int
		ok            bool
	}{{0, 0, 0, true}, {0, 1, 0, false}, {1, 1, 0, true}, {1, 0, 1, true}, {1, 0, 0, false}, {10, 2, 3, true}, {10, 2, 4, false}, {10, 1, 0, false}, {10, 1, 1, true}, {10, 3, 1, false}, {2, 1, 1, true}, {2, 2, 0, true}, {2, 1, 0, true}, {2, 0, 1, false}} {
		if isAdmissible(d.Reaches[0], x.v, x.evap, x.seep) != x.ok {
			t.Errorf("%v", x)
		}
	}
}

// P23.2: all accounts, in order.
func TestAccounts(t *testing.T) {
	d := district()
	for _, x := range []struct {
		hour int
		want [13]int // the tank; by reach on the way, evaporated, seeped; by farm; by reach at the tail; spilled
	}{
		{0, [13]int{100}}, {1, [13]int{150}}, {2, [13]int{125, 20, 0, 0, 0, 0, 0, 0, 0, 0, 0, 5}}, {3, [13]int{125, 20, 0, 0, 0, 0, 0, 0, 0, 0, 0, 5}},
		{4, [13]int{125, 0, 10, 2, 0, 3, 0, 4, 0, 1, 0, 5}}, {5, [13]int{125, 0, 0, 2, 1, 3, 1, 4, 8, 1, 0, 5}}, {8, [13]int{115, 10, 0, 2, 1, 3, 1, 4, 8, 1, 0, 5}},
	} {
		l, e := Accounts(d, small(), x.hour)
		if e != api.OK || len(l) != 12 {
			t.Fatalf("%d accounts, %d", len(l), e)
		}
		kinds := [][2]int{{1, 0}, {2, 0}, {2, 1}, {3, 0}, {3, 1}, {4, 0}, {4, 1}, {5, 0}, {5, 1}, {6, 0}, {6, 1}, {7, 0}}
		for i, a := range l {
			if a != (api.Account{Kind: kinds[i][0], Index: kinds[i][1], Litres: x.want[i]}) {
				t.Errorf("hour %d: %v, want %d", x.hour, a, x.want[i])
			}
		}
	}
}

// P23.3: the moves of an hour, in order.
func TestMoves(t *testing.T) {
	d := district()
	m := func(a, i, b, k, n int) api.Move { return api.Move{From: [2]int{a, i}, To: [2]int{b, k}, Litres: n} }
	for hour, want := range map[int][]api.Move{
		0: {m(0, 0, 1, 0, 50)},
		1: {m(1, 0, 7, 0, 5), m(1, 0, 2, 0, 20)},
		2: nil,
		3: {m(2, 0, 3, 0, 2), m(2, 0, 4, 0, 3), m(2, 0, 2, 1, 10), m(2, 0, 5, 0, 4), m(2, 0, 6, 0, 1)},
		4: {m(2, 1, 3, 1, 1), m(2, 1, 4, 1, 1), m(2, 1, 5, 1, 8)},
	} {
		if l, e := Moves(d, small(), hour); e != api.OK || !reflect.DeepEqual(l, want) {
			t.Errorf("hour %d: %v", hour, l)
		}
	}
}

// P23.4: moves turn accounts into the next ones, and nothing is lost.
func TestConserved(t *testing.T) {
	r := rand.New(rand.NewSource(23))
	for range 100 {
		d, x := random(r)
		if e := Check(d, x); e != api.OK {
			t.Fatalf("Check: %d", e)
		}
		litres := map[[2]int]int{{0, 0}: 1 << 40}
		inflow := 0
		for hour := range d.Hours + 1 {
			l, _ := Accounts(d, x, hour)
			total := 0
			for _, a := range l {
				if hour > 0 && litres[[2]int{a.Kind, a.Index}] != a.Litres {
					t.Fatalf("hour %d: %v", hour, a)
				}
				litres[[2]int{a.Kind, a.Index}] = a.Litres
				total += a.Litres
			}
			if total != d.Tank.Start+inflow {
				t.Fatalf("hour %d: %d litres", hour, total)
			}
			if hour == d.Hours {
				break
			}
			inflow += x.Inflow[hour]
			moves, _ := Moves(d, x, hour)
			for _, m := range moves {
				litres[m.From] -= m.Litres
				litres[m.To] += m.Litres
				if litres[m.From] < 0 || m.Litres <= 0 {
					t.Fatalf("hour %d: %v", hour, m)
				}
			}
		}
	}
}

// P23.5 and P23.6: what arrives is between worst and best; every changed number is noticed.
func TestConsequences(t *testing.T) {
	r := rand.New(rand.NewSource(24))
	for range 100 {
		d, x := random(r)
		for i := range d.Reaches {
			for hour, v := range x.In[i] {
				w, _ := losses.Worst(d.Reaches[i], v)
				b, _ := losses.Best(d.Reaches[i], v)
				if n := v - x.Evap[i][hour] - x.Seep[i][hour]; n < w || n > b {
					t.Fatalf("%d of %d arrive", n, v)
				}
			}
			for _, l := range [][][]int{x.Taken, x.Tail} {
				hour := r.Intn(d.Hours)
				l[i][hour]++
				if Check(d, x) != api.ErrBalance {
					t.Fatal("a changed number")
				}
				l[i][hour]--
			}
		}
	}
}

// P23.6: what has evaporated, seeped, been delivered or left does not come back.
func TestNeverDecreases(t *testing.T) {
	r := rand.New(rand.NewSource(25))
	for range 50 {
		d, x := random(r)
		before, _ := Accounts(d, x, 0)
		for hour := range d.Hours {
			after, _ := Accounts(d, x, hour+1)
			for i, a := range after {
				if a.Kind >= api.EvapA && a.Litres < before[i].Litres {
					t.Fatalf("%v becomes %v", before[i], a)
				}
			}
			before = after
		}
	}
}
