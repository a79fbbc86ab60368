package plan

import (
	"math/rand"
	"slices"
	"testing"

	"acequia/api"
)

func period(lo, hi, demand, out, spill int) api.Period {
	return api.Period{Inflow: api.Range{Lo: lo, Hi: hi}, Demand: demand, Out: out, Spill: spill}
}

func course(cap, start, floor int, l ...api.Period) api.Course {
	return api.Course{Tank: api.Tank{Cap: cap, Start: start}, Floor: floor, Periods: l}
}

func stores(lo, hi int) api.Range { return api.Range{Lo: lo, Hi: hi} }

// P39.1: right courses.
func TestCheck(t *testing.T) {
	const most = 1 << 40
	for i, x := range []struct {
		c    api.Course
		want api.Errno
	}{
		{api.Course{}, 0}, {course(most, most, most, period(most, most, most, most, most)), 0}, {course(0, 0, 0, make([]api.Period, 64)...), 0}, {course(-1, 0, 0, make([]api.Period, 65)...), api.ErrLimit}, {course(most+1, 0, 0), api.ErrPlan}, {course(5, 6, 0), api.ErrPlan}, {course(5, -1, 0), api.ErrPlan}, {course(5, 0, 6), api.ErrPlan}, {course(5, 0, -1), api.ErrPlan},
		{course(5, 0, 0, period(2, 1, 0, 0, 0)), api.ErrPlan}, {course(5, 0, 0, period(-1, 1, 0, 0, 0)), api.ErrPlan}, {course(5, 0, 0, period(0, most+1, 0, 0, 0)), api.ErrPlan}, {course(5, 0, 0, period(0, 0, 2, 1, 0)), api.ErrPlan}, {course(5, 0, 0, period(0, 0, -1, 1, 0)), api.ErrPlan}, {course(5, 0, 0, period(0, 0, 0, most+1, 0)), api.ErrPlan}, {course(5, 0, 0, period(0, 0, 0, 0, -1)), api.ErrPlan}, {course(5, 0, 0, period(0, 0, 0, 0, most+1)), api.ErrPlan},
	} {
		_, e1 := Robust(x.c)
		_, e2 := Release(x.c, -1, 0)
		_, _, _, e3 := Next(x.c, -1, 0, 0, 0)
		_, e4 := Spoil(x.c, -1, 0, 0)
		_, _, e5 := Firm(x.c, make([]int, 70))
		if e := Check(x.c); e != x.want || e1 != e || e != api.OK && (e2 != e || e3 != e || e4 != e || e5 != e) {
			t.Errorf("case %d: %d, %d, %d, %d, %d, %d", i, e, e1, e2, e3, e4, e5)
		}
	}
}

// P39.1: robust stores.
func TestRobust(t *testing.T) {
	for i, x := range []struct {
		c    api.Course
		want []api.Range
	}{
		{api.Course{}, []api.Range{{}}}, {course(10, 0, 2, period(3, 5, 4, 6, 0)), []api.Range{stores(4, 10), stores(2, 10)}}, {course(10, 0, 2, period(0, 11, 0, 5, 0)), []api.Range{none(), stores(2, 10)}}, {course(10, 0, 2, period(0, 0, 9, 9, 0)), []api.Range{none(), stores(2, 10)}},
		{course(10, 0, 2, period(0, 12, 0, 5, 4)), []api.Range{stores(2, 7), stores(2, 10)}}, {course(10, 0, 8, period(0, 0, 0, 9, 9), period(0, 2, 0, 1, 0)), []api.Range{stores(8, 10), stores(8, 9), stores(8, 10)}}, {course(10, 0, 9, period(0, 0, 0, 9, 9), period(0, 3, 0, 1, 0)), []api.Range{none(), none(), stores(9, 10)}},
	} {
		if l, e := Robust(x.c); e != api.OK || !slices.Equal(l, x.want) {
			t.Errorf("case %d: %v", i, l)
		}
	}
}

// P39.2 and P39.3: releases, next stores, spoilers and firm demands.
func TestCalls(t *testing.T) {
	c := course(10, 4, 2, period(3, 5, 4, 6, 1))
	for _, x := range []struct{ store, out int }{{4, 4}, {9, 4}, {10, 4}} {
		if out, e := Release(c, 0, x.store); out != x.out || e != api.OK {
			t.Errorf("Release from %d = %d, %d", x.store, out, e)
		}
	}
	c.Periods[0].Spill = 0
	if out, e := Release(c, 0, 10); out != 5 || e != api.OK {
		t.Errorf("Release from 10 = %d", out)
	}
	if out, e := Release(c, 0, 3); out != 0 || e != api.ErrPlan {
		t.Error("Release from a store that is not robust")
	}
	c.Periods[0].Spill = 1
	for i, x := range []struct {
		store, out, inflow, next, spill int
		ok                              bool
	}{{9, 4, 6, 10, 1, true}, {9, 4, 7, 0, 0, false}, {9, 3, 0, 0, 0, false}, {9, 7, 0, 0, 0, false}, {5, 6, 9, 0, 0, false}, {5, 5, 0, 0, 0, true}} {
		if next, spill, ok, e := Next(c, 0, x.store, x.out, x.inflow); next != x.next || spill != x.spill || ok != x.ok || e != api.OK {
			t.Errorf("Next %d: %d, %d, %v, %d", i, next, spill, ok, e)
		}
	}
	if n, e := Spoil(course(10, 4, 2, period(0, 5, 1, 6, 0)), 0, 2, 1); n != 0 || e != api.OK {
		t.Errorf("Spoil = %d, %d", n, e)
	}
	if n, e := Spoil(course(10, 4, 0, period(0, 9, 0, 1, 0)), 0, 5, 1); n != 9 || e != api.OK {
		t.Errorf("Spoil = %d, %d", n, e)
	}
	if n, e := Spoil(course(10, 4, 0, period(9, 9, 0, 1, 0)), 0, 5, 1); n != 9 || e != api.OK {
		t.Errorf("Spoil = %d, %d", n, e)
	}
	if _, e := Spoil(c, 0, 4, 4); e != api.ErrPlan {
		t.Error("a robust store")
	}
	if _, e := Spoil(c, 0, 3, 4); e != api.ErrPlan {
		t.Error("a release that is not allowed")
	}
}

// P39.2 and P39.3: arguments that are wrong.
func TestArguments(t *testing.T) {
	c := course(10, 4, 2, period(3, 5, 4, 6, 1))
	for _, x := range [][2]int{{-1, 4}, {1, 4}, {0, -1}, {0, 11}} {
		_, e1 := Release(c, x[0], x[1])
		_, _, _, e2 := Next(c, x[0], x[1], 4, 4)
		_, e3 := Spoil(c, x[0], x[1], 4)
		if e1 != api.ErrArg || e2 != api.ErrArg || e3 != api.ErrArg {
			t.Errorf("%v", x)
		}
	}
	for _, n := range []int{-1, 1<<40 + 1} {
		_, _, _, e1 := Next(c, 0, 4, n, 0)
		_, _, _, e2 := Next(c, 0, 4, 4, n)
		_, e3 := Spoil(c, 0, 4, n)
		if e1 != api.ErrArg || e2 != api.ErrArg || e3 != api.ErrArg {
			t.Errorf("%d", n)
		}
	}
	for _, shape := range [][]int{nil, {1, 1}, {-1}, {1<<20 + 1}} {
		if _, _, e := Firm(c, shape); e != api.ErrPlan {
			t.Errorf("the shape %v", shape)
		}
	}
	for i, x := range []struct {
		c     api.Course
		shape []int
		n     int
		ok    bool
	}{{api.Course{}, nil, 1 << 20, true}, {c, []int{1}, 4, true}, {c, []int{0}, 1 << 20, true}, {c, []int{2}, 2, true}, {c, []int{6}, 0, true}, {course(10, 0, 2, period(0, 0, 0, 9, 0)), []int{1}, 0, false}, {course(10, 9, 2, period(0, 0, 3, 4, 0)), []int{1}, 4, true}} {
		if n, ok, e := Firm(x.c, x.shape); n != x.n || ok != x.ok || e != api.OK {
			t.Errorf("Firm %d: %d, %v, %d", i, n, ok, e)
		}
	}
}

func random(r *rand.Rand) api.Course {
	c := course(8, r.Intn(9), r.Intn(4))
	for range r.Intn(4) {
		lo, demand := r.Intn(4), r.Intn(4)
		c.Periods = append(c.Periods, period(lo, lo+r.Intn(4), demand, demand+r.Intn(4), r.Intn(3)))
	}
	return c
}

// isRobust decides by trying all releases and all inflows.
func isRobust(c api.Course, t, store int) bool {
	if t == len(c.Periods) {
		return store >= c.Floor
	}
	p := c.Periods[t]
	for out := p.Demand; out <= min(p.Out, store); out++ {
		good := true
		for q := p.Inflow.Lo; q <= p.Inflow.Hi && good; q++ {
			after, spill := next(c, store, out, q)
			good = spill <= p.Spill && isRobust(c, t+1, after)
		}
		if good {
			return true
		}
	}
	return false
}

// P39.4: either a plan for all inflows, or inflows that spoil every plan. P39.5: only the past.
func TestEither(t *testing.T) {
	r := rand.New(rand.NewSource(39))
	for range 400 {
		c := random(r)
		l, _ := Robust(c)
		for moment, stores := range l {
			for store := range c.Tank.Cap + 1 {
				if contains(stores, store) != isRobust(c, moment, store) {
					t.Fatalf("%v: the store %d of the moment %d, %v", c, store, moment, stores)
				}
				if moment < len(c.Periods) {
					checkMoment(t, c, l, moment, store)
				}
			}
		}
	}
}

func checkMoment(t *testing.T, c api.Course, l []api.Range, moment, store int) {
	t.Helper()
	p := c.Periods[moment]
	leads := func(out, inflow int) bool {
		after, _, ok, _ := Next(c, moment, store, out, inflow)
		return ok && contains(l[moment+1], after)
	}
	if contains(l[moment], store) {
		out, e := Release(c, moment, store)
		for q := p.Inflow.Lo; q <= p.Inflow.Hi; q++ {
			if e != api.OK || !leads(out, q) {
				t.Fatalf("%v: the release %d", c, out)
			}
		}
		return
	}
	for out := p.Demand; out <= min(p.Out, store); out++ {
		q, e := Spoil(c, moment, store, out)
		if e != api.OK || leads(out, q) || q != p.Inflow.Lo && leads(out, p.Inflow.Lo) == false {
			t.Fatalf("%v: the inflow %d", c, q)
		}
	}
}

// P39.6: better courses lose no robust store, and firm demands are the greatest ones.
func TestBetter(t *testing.T) {
	r := rand.New(rand.NewSource(40))
	for range 400 {
		c := random(r)
		l, _ := Robust(c)
		better := c
		better.Periods = slices.Clone(c.Periods)
		shape := make([]int, len(c.Periods))
		for i := range better.Periods {
			p := &better.Periods[i]
			p.Inflow.Hi -= r.Intn(p.Inflow.Hi - p.Inflow.Lo + 1)
			p.Demand -= r.Intn(p.Demand + 1)
			p.Out, p.Spill, shape[i] = p.Out+r.Intn(2), p.Spill+r.Intn(2), 1+r.Intn(2)
		}
		more, _ := Robust(better)
		for i := range l {
			if l[i] != none() && (more[i].Lo > l[i].Lo || more[i].Hi < l[i].Hi) {
				t.Fatalf("%v becomes %v", l, more)
			}
		}
		n, ok, _ := Firm(c, shape)
		for k := range 12 {
			d := c
			d.Periods = slices.Clone(c.Periods)
			for i := range d.Periods {
				d.Periods[i].Demand = k * shape[i]
			}
			met := Check(d) == api.OK && isRobust(d, 0, d.Tank.Start)
			if met != (ok && k <= n) {
				t.Fatalf("%v: the demand %d, firm %d", c, k, n)
			}
		}
	}
}
