package clocks

import (
	"math/rand"
	"slices"
	"testing"

	"acequia/api"
)

func fact(no, key, value, from, to, known int) api.Fact {
	return api.Fact{No: no, Key: key, Value: value, From: from, To: to, Known: known}
}

func span(lo, hi int) api.Range { return api.Range{Lo: lo, Hi: hi} }

// P55.1: right facts.
func TestCheckAndAdd(t *testing.T) {
	for i, x := range []struct {
		l    []api.Fact
		want api.Errno
	}{
		{nil, 0}, {[]api.Fact{fact(0, 1<<20, -1<<30, 0, 4096, 4096), fact(1<<20, 0, 1<<30, 4096, 4096, 0)}, 0}, {make([]api.Fact, 513), api.ErrLimit}, {make([]api.Fact, 2), api.ErrClock}, {[]api.Fact{fact(-1, 0, 0, 0, 0, 0)}, api.ErrClock}, {[]api.Fact{fact(1<<20+1, 0, 0, 0, 0, 0)}, api.ErrClock}, {[]api.Fact{fact(0, -1, 0, 0, 0, 0)}, api.ErrClock}, {[]api.Fact{fact(0, 1<<20+1, 0, 0, 0, 0)}, api.ErrClock}, {[]api.Fact{fact(0, 0, 1<<30+1, 0, 0, 0)}, api.ErrClock}, {[]api.Fact{fact(0, 0, -1<<30-1, 0, 0, 0)}, api.ErrClock}, {[]api.Fact{fact(0, 0, 1<<63-1, 0, 0, 0)}, api.ErrClock},
		{[]api.Fact{fact(0, 0, 0, -1, 0, 0)}, api.ErrClock}, {[]api.Fact{fact(0, 0, 0, 2, 1, 0)}, api.ErrClock}, {[]api.Fact{fact(0, 0, 0, 0, 4097, 0)}, api.ErrClock}, {[]api.Fact{fact(0, 0, 0, 0, 0, -1)}, api.ErrClock}, {[]api.Fact{fact(0, 0, 0, 0, 0, 4097)}, api.ErrClock},
	} {
		_, e1 := Add(x.l, fact(7, 0, 0, 0, 0, 0))
		_, _, e2 := At(x.l, 0, 0, 0)
		_, e3 := History(x.l, 0, 0, span(0, 0))
		_, e4 := Changed(x.l, 0, 0, 0, span(0, 0))
		_, e5 := Total(x.l, 0, 0, span(0, 0))
		if e := Check(x.l); e != x.want || e1 != e || e2 != e || e3 != e || e4 != e || e5 != e {
			t.Errorf("case %d: %d, %d, %d, %d, %d, %d, want %d", i, e, e1, e2, e3, e4, e5, x.want)
		}
	}
	l := []api.Fact{fact(2, 0, 0, 0, 0, 0), fact(5, 0, 0, 0, 0, 0)}
	for i, x := range []struct {
		x    api.Fact
		at   int
		want api.Errno
	}{{fact(1, 0, 9, 0, 0, 0), 0, 0}, {fact(3, 0, 9, 0, 0, 0), 1, 0}, {fact(6, 0, 9, 0, 0, 0), 2, 0}, {fact(5, 0, 0, 2, 1, 0), 0, api.ErrTwice}, {fact(6, 0, 0, 2, 1, 0), 0, api.ErrClock}, {fact(-1, 0, 0, 0, 0, 0), 0, api.ErrClock}} {
		if y, e := Add(l, x.x); e != x.want || e == api.OK && (len(y) != 3 || y[x.at] != x.x) || e != api.OK && y != nil {
			t.Errorf("Add %d: %v, %d", i, y, e)
		}
	}
	full := make([]api.Fact, 512)
	for i := range full {
		full[i].No = i
	}
	if _, e := Add(full, fact(999, 0, 0, 0, 0, 0)); e != api.ErrLimit {
		t.Error("a fact too many")
	}
}

// meter says 7 litres in the hours 2 to 8, corrected to 9 in the hours 3 to 5, and again to 7 in the hour 4.
func meter() []api.Fact {
	return []api.Fact{fact(1, 3, 9, 3, 5, 20), fact(2, 3, 7, 2, 8, 10), fact(3, 3, 7, 4, 4, 30), fact(4, 3, 1, 8, 8, 10), fact(9, 4, 5, 0, 9, 0)}
}

// P55.2 and P55.3: what is said, and when it changed.
func TestSaid(t *testing.T) {
	l := meter()
	for _, x := range []struct {
		hour, known, value int
		ok                 bool
	}{{2, 9, 0, false}, {2, 10, 7, true}, {3, 10, 7, true}, {3, 20, 9, true}, {4, 29, 9, true}, {4, 30, 7, true}, {8, 30, 1, true}, {1, 4096, 0, false}, {9, 4096, 0, false}} {
		if v, ok, e := At(l, 3, x.hour, x.known); v != x.value || ok != x.ok || e != api.OK {
			t.Errorf("At(%d, %d) = %d, %v", x.hour, x.known, v, ok)
		}
	}
	era := func(lo, hi, value int, known bool) api.Era {
		return api.Era{Range: span(lo, hi), Value: value, Known: known}
	}
	for i, x := range []struct {
		known int
		r     api.Range
		want  []api.Era
		total int
	}{
		{9, span(0, 10), []api.Era{era(0, 10, 0, false)}, 0}, {10, span(0, 10), []api.Era{era(0, 1, 0, false), era(2, 7, 7, true), era(8, 8, 1, true), era(9, 10, 0, false)}, 43}, {20, span(3, 5), []api.Era{era(3, 5, 9, true)}, 27}, {30, span(2, 7), []api.Era{era(2, 2, 7, true), era(3, 3, 9, true), era(4, 4, 7, true), era(5, 5, 9, true), era(6, 7, 7, true)}, 46}, {10, span(4, 4), []api.Era{era(4, 4, 7, true)}, 7},
	} {
		s, e := History(l, 3, x.known, x.r)
		n, f := Total(l, 3, x.known, x.r)
		if e != api.OK || f != api.OK || !slices.Equal(s, x.want) || n != x.total {
			t.Errorf("case %d: %v, %d", i, s, n)
		}
	}
	for i, x := range []struct {
		a, b int
		r    api.Range
		want []api.Range
	}{{10, 20, span(0, 10), []api.Range{span(3, 5)}}, {20, 10, span(4, 10), []api.Range{span(4, 5)}}, {20, 30, span(0, 10), []api.Range{span(4, 4)}}, {10, 30, span(0, 10), []api.Range{span(3, 3), span(5, 5)}}, {0, 30, span(0, 10), []api.Range{span(2, 8)}}, {5, 5, span(0, 10), nil}} {
		if y, e := Changed(l, 3, x.a, x.b, x.r); e != api.OK || !slices.Equal(y, x.want) {
			t.Errorf("Changed %d: %v", i, y)
		}
	}
	if s, e := History(nil, 3, 0, span(2, 5)); e != api.OK || !slices.Equal(s, []api.Era{era(2, 5, 0, false)}) {
		t.Errorf("nothing: %v", s)
	}
}

// P55.2 and P55.3: arguments that are wrong.
func TestArguments(t *testing.T) {
	for _, x := range []struct {
		key, moment int
		r           api.Range
	}{{-1, 0, span(0, 0)}, {1<<20 + 1, 0, span(0, 0)}, {0, -1, span(0, 0)}, {0, 4097, span(0, 0)}, {0, 0, span(-1, 0)}, {0, 0, span(4097, 4097)}} {
		_, _, e1 := At(nil, x.key, x.r.Lo, x.moment)
		_, e2 := History(nil, x.key, x.moment, x.r)
		_, e3 := Changed(nil, x.key, x.moment, 0, x.r)
		_, e4 := Changed(nil, x.key, 0, x.moment, x.r)
		_, e5 := Total(nil, x.key, x.moment, x.r)
		if e1 != api.ErrArg || e2 != api.ErrArg || e3 != api.ErrArg || e5 != api.ErrArg || e4 != api.ErrArg {
			t.Errorf("%v", x)
		}
	}
	for _, r := range []api.Range{span(5, 2), span(0, 4097)} {
		_, e1 := History(nil, 0, 0, r)
		_, e2 := Changed(nil, 0, 0, 0, r)
		_, e3 := Total(nil, 0, 0, r)
		if e1 != api.ErrArg || e2 != api.ErrArg || e3 != api.ErrArg {
			t.Errorf("%v", r)
		}
	}
}

// P55.4 to P55.6: what was known, corrections, and parts, hour by hour.
func TestLaws(t *testing.T) {
	r := rand.New(rand.NewSource(55))
	for range 1000 {
		var l []api.Fact
		for _, no := range r.Perm(20)[:r.Intn(8)] {
			from := r.Intn(8)
			y, e := Add(l, fact(no, r.Intn(2), r.Intn(3), from, from+r.Intn(8-from), r.Intn(6)))
			if e != api.OK {
				t.Fatal(e)
			}
			l = y
		}
		known, other := r.Intn(7), r.Intn(7)
		s, _ := History(l, 0, known, span(1, 9))
		changed, _ := Changed(l, 0, known, other, span(1, 9))
		total, _ := Total(l, 0, known, span(1, 9))
		sum, next := 0, 1
		for i, x := range s {
			if x.Range.Lo != next || i > 0 && x.Value == s[i-1].Value && x.Known == s[i-1].Known {
				t.Fatalf("the parts %v", s)
			}
			next = x.Range.Hi + 1
			sum += x.Value * (x.Range.Hi - x.Range.Lo + 1)
			for hour := x.Range.Lo; hour <= x.Range.Hi; hour++ {
				v, ok, _ := At(l, 0, hour, known)
				w, ok2, _ := At(l, 0, hour, other)
				in := slices.ContainsFunc(changed, func(c api.Range) bool { return c.Lo <= hour && hour <= c.Hi })
				if v != x.Value || ok != x.Known || in != (v != w || ok != ok2) {
					t.Fatalf("the hour %d", hour)
				}
			}
		}
		if next != 10 || sum != total {
			t.Fatalf("the parts %v, total %d", s, total)
		}
		early := slices.DeleteFunc(slices.Clone(l), func(x api.Fact) bool { return x.Known > known })
		if same, _ := History(early, 0, known, span(1, 9)); !slices.Equal(same, s) {
			t.Fatal("what becomes known later")
		}
		corrected, _ := Add(l, fact(99, 0, 50, 3, 5, 9))
		for hour := range 9 {
			v, ok, _ := At(corrected, 0, hour, 9)
			w, ok2, _ := At(l, 0, hour, 9)
			if hour >= 3 && hour <= 5 {
				w, ok2 = 50, true
			}
			if v != w || ok != ok2 {
				t.Fatalf("the correction in the hour %d", hour)
			}
		}
	}
}

// P55.4: facts are added in any order. P55.6: what changed makes the difference of the totals.
func TestOrderOfFacts(t *testing.T) {
	r := rand.New(rand.NewSource(56))
	for range 300 {
		var l, m []api.Fact
		var all []api.Fact
		for no := range r.Intn(8) {
			from := r.Intn(8)
			all = append(all, fact(no, 0, r.Intn(5), from, from+r.Intn(4), r.Intn(6)))
		}
		for _, i := range r.Perm(len(all)) {
			l, _ = Add(l, all[i])
		}
		for _, x := range all {
			m, _ = Add(m, x)
		}
		if !slices.Equal(l, m) {
			t.Fatalf("%v and %v", l, m)
		}
		a, b := r.Intn(7), r.Intn(7)
		changed, _ := Changed(l, 0, a, b, span(0, 12))
		difference := 0
		for _, part := range changed {
			x, _ := Total(l, 0, a, part)
			y, _ := Total(l, 0, b, part)
			difference += y - x
		}
		x, _ := Total(l, 0, a, span(0, 12))
		y, _ := Total(l, 0, b, span(0, 12))
		if y-x != difference {
			t.Fatalf("%d, not %d", y-x, difference)
		}
	}
}
