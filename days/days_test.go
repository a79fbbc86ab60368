package days

import (
	"math/rand"
	"reflect"
	"testing"
	"time"

	"acequia/api"
)

func date(y, m, d int) api.Date { return api.Date{Year: y, Month: m, Day: d} }

// P14.1 and P14.4: every day, by the standard library.
func TestDates(t *testing.T) {
	day := time.Date(2000, 1, 1, 0, 0, 0, 0, time.UTC)
	for n := range api.MaxDay + 1 {
		want := date(day.Year(), int(day.Month()), day.Day())
		d, e := Of(n)
		m, f := Number(want)
		w, g := Weekday(n)
		if d != want || e != api.OK || m != n || f != api.OK || w != (int(day.Weekday())+6)%7 || g != api.OK {
			t.Fatalf("day %d: %v, %d, %d", n, d, m, w)
		}
		day = day.AddDate(0, 0, 1)
	}
	if d, _ := Of(59); d != date(2000, 2, 29) {
		t.Error("the example")
	}
	for _, n := range []int{-1, api.MaxDay + 1, 1 << 62, -1 << 63} {
		d, e := Of(n)
		w, f := Weekday(n)
		if e != api.ErrArg || f != api.ErrArg || w != 0 || d != date(0, 0, 0) {
			t.Errorf("the day %d", n)
		}
	}
	for _, d := range []api.Date{{}, date(2100, 2, 29), date(2001, 2, 29), date(1999, 12, 31), date(2200, 1, 1), date(2000, 0, 1), date(2000, 13, 1), date(2000, 4, 31), date(2000, 1, 0), date(2000, 1, 32), date(2000, -1<<63, 1), date(2000, 1, 1<<62)} {
		if n, e := Number(d); e != api.ErrDate || n != 0 {
			t.Errorf("Number(%v)", d)
		}
	}
}

func spans(l ...int) (s []api.Span) {
	for i := 0; i < len(l); i += 2 {
		s = append(s, api.Span{From: l[i], To: l[i+1]})
	}
	return s
}

func many(n int) (l []api.Span) {
	for i := range n {
		l = append(l, api.Span{From: 4 * i, To: 4 * i})
	}
	return l
}

// P14.2: canonical lists, and their days in order.
func TestCheckCountNth(t *testing.T) {
	for _, x := range []struct {
		l    []api.Span
		want api.Errno
	}{
		{nil, api.OK}, {spans(0, 0), api.OK}, {spans(0, api.MaxDay), api.OK}, {spans(1, 3, 5, 5), api.OK}, {many(256), api.OK}, {many(257), api.ErrLimit},
		{spans(1, 3, 4, 6), api.ErrDate}, {spans(3, 2), api.ErrDate}, {spans(-1, 2), api.ErrDate}, {spans(0, api.MaxDay+1), api.ErrDate}, {spans(5, 6, 1, 2), api.ErrDate}, {spans(1, 3, 1, 3), api.ErrDate}, {spans(1, 1<<63-1, 3, 4), api.ErrDate},
	} {
		_, e1 := Count(x.l)
		_, _, e2 := Nth(x.l, 0)
		_, e3 := Union(x.l, nil)
		_, e4 := Meet(nil, x.l)
		if e := Check(x.l); e != x.want || e1 != e || e2 != e || e3 != e || e4 != e {
			t.Errorf("Check(%v) = %d", x.l, e)
		}
	}
	l := spans(1, 2, 6, 9)
	if n, e := Count(l); n != 6 || e != api.OK {
		t.Errorf("Count = %d", n)
	}
	for k, want := range []int{1, 2, 6, 7, 8, 9} {
		if day, ok, e := Nth(l, k); day != want || !ok || e != api.OK {
			t.Errorf("Nth(%d) = %d", k, day)
		}
	}
	if day, ok, e := Nth(l, 6); day != 0 || ok || e != api.OK {
		t.Error("Nth after the last day")
	}
	if _, _, e := Nth(l, -1); e != api.ErrArg {
		t.Error("Nth before the first day")
	}
	if _, _, e := Nth(spans(2, 1), -1); e != api.ErrDate {
		t.Error("the order of errors")
	}
}

// P14.3: examples and limits.
func TestCombine(t *testing.T) {
	if l, e := Union(spans(1, 3), spans(4, 6)); e != api.OK || !reflect.DeepEqual(l, spans(1, 6)) {
		t.Errorf("Union: %v", l)
	}
	if l, e := Without(spans(1, 9), spans(3, 5)); e != api.OK || !reflect.DeepEqual(l, spans(1, 2, 6, 9)) {
		t.Errorf("Without: %v", l)
	}
	if l, e := Meet(spans(1, 3), spans(4, 6)); e != api.OK || len(l) != 0 {
		t.Errorf("Meet: %v", l)
	}
	if l, e := Union(many(256), spans(5000, 5000)); e != api.ErrLimit || l != nil {
		t.Error("257 spans")
	}
	if l, e := Without(spans(0, api.MaxDay), many(256)); e != api.OK || len(l) != 256 || l[255].To != api.MaxDay {
		t.Error("the days between")
	}
	if _, e := Union(spans(2, 1), many(257)); e != api.ErrDate {
		t.Error("the order of errors")
	}
}

// random returns the set of some days below 24, and its list.
func random(r *rand.Rand) (in [24]bool, l []api.Span) {
	for n := range in {
		if in[n] = r.Intn(2) == 0; !in[n] {
			continue
		}
		if n > 0 && in[n-1] {
			l[len(l)-1].To = n
		} else {
			l = append(l, api.Span{From: n, To: n})
		}
	}
	return in, l
}

// P14.5 and P14.6: sets, day by day.
func TestSets(t *testing.T) {
	r := rand.New(rand.NewSource(14))
	has := func(l []api.Span, n int) bool {
		for _, s := range l {
			if s.From <= n && n <= s.To {
				return true
			}
		}
		return false
	}
	for range 2000 {
		inA, a := random(r)
		inB, b := random(r)
		union, _ := Union(a, b)
		meet, _ := Meet(a, b)
		rest, _ := Without(a, b)
		if Check(union) != api.OK || Check(meet) != api.OK || Check(rest) != api.OK {
			t.Fatal("not canonical")
		}
		for n := range inA {
			if has(union, n) != (inA[n] || inB[n]) || has(meet, n) != (inA[n] && inB[n]) || has(rest, n) != (inA[n] && !inB[n]) {
				t.Fatalf("%v and %v at %d", a, b, n)
			}
		}
		na, _ := Count(a)
		nb, _ := Count(b)
		nu, _ := Count(union)
		nm, _ := Count(meet)
		if nu+nm != na+nb {
			t.Fatal("counts")
		}
	}
}
