package calibrate

import (
	"math/rand"
	"reflect"
	"slices"
	"testing"

	"acequia/api"
)

func past(body int, l ...int) (p api.Past) {
	p.Body = body
	for i := 0; i < len(l); i += 3 {
		p.Bounds, p.Seen = append(p.Bounds, api.Range{Lo: l[i], Hi: l[i+1]}), append(p.Seen, l[i+2])
	}
	return p
}

func budget(fails, of int) api.Budget { return api.Budget{Fails: fails, Of: of} }

// P37.1 and P37.2: forecasts, bodies and budgets that are wrong.
func TestErrors(t *testing.T) {
	long := past(0, slices.Repeat([]int{0, 0, 0}, 17)...)
	for i, x := range []struct {
		l    []api.Past
		want api.Errno
	}{
		{nil, 0}, {[]api.Past{past(63, 0, 1<<40, 1<<40)}, 0}, {make([]api.Past, 257), api.ErrLimit}, {[]api.Past{{Body: -1}, long}, api.ErrLimit}, {[]api.Past{{Bounds: make([]api.Range, 1), Seen: make([]int, 17)}}, api.ErrLimit}, {[]api.Past{past(0)}, api.ErrPast}, {[]api.Past{past(64, 0, 0, 0)}, api.ErrPast}, {[]api.Past{past(-1, 0, 0, 0)}, api.ErrPast},
		{[]api.Past{past(0, 2, 1, 0)}, api.ErrPast}, {[]api.Past{past(0, -1, 1, 0)}, api.ErrPast}, {[]api.Past{past(0, 0, 1<<40+1, 0)}, api.ErrPast}, {[]api.Past{past(0, 0, 0, -1)}, api.ErrPast}, {[]api.Past{past(0, 0, 0, 1<<40+1)}, api.ErrPast}, {[]api.Past{{Bounds: make([]api.Range, 2), Seen: make([]int, 1)}}, api.ErrPast},
	} {
		_, e1 := Fails(x.l, 0)
		_, e2 := Within(x.l, 0, budget(0, 1))
		_, e3 := Margin(x.l, 0, budget(0, 1))
		if e := Check(x.l); e != x.want || e1 != e || e2 != e || e3 != e {
			t.Errorf("case %d: %d, %d, %d, %d, want %d", i, e, e1, e2, e3, x.want)
		}
	}
	for _, body := range []int{-1, 64} {
		_, e1 := Fails(nil, body)
		_, e2 := Within(nil, body, budget(0, 1))
		_, e3 := Margin(nil, body, budget(0, 1))
		if e1 != api.ErrArg || e2 != api.ErrArg || e3 != api.ErrArg {
			t.Errorf("the body %d", body)
		}
	}
	for _, b := range []api.Budget{budget(0, 0), budget(1, 1), budget(-1, 4), budget(0, 4097), budget(0, -1)} {
		_, e1 := Within(nil, 0, b)
		_, e2 := Margin(nil, 0, b)
		if e1 != api.ErrArg || e2 != api.ErrArg {
			t.Errorf("the budget %v", b)
		}
	}
}

// P37.1: failures, and windows of trials.
func TestFailsAndWithin(t *testing.T) {
	l := []api.Past{past(1, 0, 7, 10, 3, 9, 3), past(2, 5, 5, 0), past(1, 4, 6, 1), past(1, 0, 9, 9, 0, 0, 1)}
	if f, e := Fails(l, 1); e != api.OK || !reflect.DeepEqual(f, [][2]int{{0, 0}, {2, 0}, {3, 1}}) {
		t.Errorf("Fails = %v", f)
	}
	for _, x := range []struct {
		b  api.Budget
		ok bool
	}{{budget(0, 1), false}, {budget(1, 2), true}, {budget(1, 3), false}, {budget(2, 4), true}, {budget(2, 5), false}, {budget(3, 5), true}, {budget(2, 4096), false}, {budget(3, 4096), true}} {
		if ok, e := Within(l, 1, x.b); ok != x.ok || e != api.OK {
			t.Errorf("Within %v: %v", x.b, ok)
		}
	}
	if ok, e := Within(l, 7, budget(0, 1)); !ok || e != api.OK {
		t.Error("a body without forecasts")
	}
}

// P37.2: margins and widened ranges.
func TestMarginAndWiden(t *testing.T) {
	l := []api.Past{past(1, 0, 7, 10, 3, 9, 3), past(2, 5, 5, 0), past(1, 4, 6, 2), past(1, 0, 9, 9, 0, 0, 1)}
	for _, x := range []struct {
		b api.Budget
		m int
	}{{budget(0, 1), 3}, {budget(0, 9), 3}, {budget(1, 2), 0}, {budget(1, 3), 2}, {budget(1, 5), 2}, {budget(2, 5), 1}, {budget(3, 5), 0}} {
		if m, e := Margin(l, 1, x.b); m != x.m || e != api.OK {
			t.Errorf("Margin %v = %d", x.b, m)
		}
	}
	for i, x := range []struct {
		b    []api.Range
		m    int
		want []api.Range
		e    api.Errno
	}{
		{[]api.Range{{Lo: 2, Hi: 3}}, 5, []api.Range{{Lo: 0, Hi: 8}}, 0}, {[]api.Range{{Lo: 7, Hi: 1 << 40}, {Lo: 1, Hi: 1}}, 1, []api.Range{{Lo: 6, Hi: 1 << 40}, {Lo: 0, Hi: 2}}, 0}, {[]api.Range{{}}, 1 << 40, []api.Range{{Hi: 1 << 40}}, 0},
		{make([]api.Range, 17), -1, nil, api.ErrLimit}, {nil, -1, nil, api.ErrPast}, {[]api.Range{{Lo: 2, Hi: 1}}, -1, nil, api.ErrPast}, {[]api.Range{{}}, -1, nil, api.ErrArg}, {[]api.Range{{}}, 1<<40 + 1, nil, api.ErrArg},
	} {
		if w, e := Widen(x.b, x.m); !slices.Equal(w, x.want) || e != x.e {
			t.Errorf("case %d: %v, %d", i, w, e)
		}
	}
}

// P37.3 to P37.5: calibrated bounds, and how margins change.
func TestLaws(t *testing.T) {
	r := rand.New(rand.NewSource(37))
	for range 1000 {
		var l []api.Past
		for range r.Intn(6) {
			var n []int
			for range 1 + r.Intn(4) {
				lo := 20 + r.Intn(5)
				n = append(n, lo, lo+r.Intn(5), 15+r.Intn(20))
			}
			l = append(l, past(r.Intn(2), n...))
		}
		of := 1 + r.Intn(6)
		b := budget(r.Intn(of), of)
		m, _ := Margin(l, 0, b)
		widened := func(by int) []api.Past {
			w := slices.Clone(l)
			for i := range w {
				w[i].Bounds, _ = Widen(w[i].Bounds, by)
			}
			return w
		}
		if ok, _ := Within(widened(m), 0, b); !ok {
			t.Fatal("not within the budget")
		}
		if m > 0 {
			if ok, _ := Within(widened(m-1), 0, b); ok {
				t.Fatal("a lesser margin")
			}
		}
		ok, _ := Within(l, 0, b)
		fails, _ := Fails(l, 0)
		if blocks := (len(distances(l, 0)) + of - 1) / of; ok != (m == 0) || ok && len(fails) > b.Fails*blocks {
			t.Fatal("how many fail")
		}
		more, _ := Margin(append(slices.Clone(l), past(0, 5, 9, 7)), 0, b)
		if more > m {
			t.Fatal("a further trial")
		}
		if b.Fails+1 < b.Of {
			greater, _ := Margin(l, 0, budget(b.Fails+1, b.Of))
			shorter, _ := Margin(l, 0, budget(b.Fails, b.Of-1))
			if greater > m || shorter > m {
				t.Fatal("a greater budget")
			}
		}
		own := slices.DeleteFunc(slices.Clone(l), func(p api.Past) bool { return p.Body != 0 })
		if n, _ := Margin(own, 0, b); n != m {
			t.Fatal("other bodies")
		}
	}
}

// P37.1 and P37.2: windows, one by one.
func TestWindows(t *testing.T) {
	r := rand.New(rand.NewSource(38))
	for range 1000 {
		l := []api.Past{}
		for range r.Intn(4) {
			var n []int
			for range 1 + r.Intn(4) {
				n = append(n, 10, 12, 8+r.Intn(7))
			}
			l = append(l, past(0, n...))
		}
		of := 1 + r.Intn(7)
		b := budget(r.Intn(of), of)
		all := distances(l, 0)
		enough := func(m int) bool {
			for first := range all {
				fails := 0
				for _, n := range all[first:min(len(all), first+of)] {
					if n > m {
						fails++
					}
				}
				if fails > b.Fails {
					return false
				}
			}
			return true
		}
		want := 0
		for !enough(want) {
			want++
		}
		ok, _ := Within(l, 0, b)
		if m, e := Margin(l, 0, b); e != api.OK || m != want || ok != (want == 0) {
			t.Fatalf("%v with %v: %d, want %d", all, b, m, want)
		}
	}
}
