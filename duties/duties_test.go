package duties

import (
	"math/rand"
	"slices"
	"testing"

	"acequia/api"
)

// district has two farms; the farm 0 has to do the duties 0 and 2, the farm 1 the duty 1.
func district() api.District {
	return api.District{
		Hours: 20, Reaches: []api.Reach{{Up: -1, Delay: 1, Seep: [2]api.Ratio{{D: 1}, {D: 1}}}}, Farms: []api.Farm{{Crop: -1}, {Crop: -1}},
		Duties: []api.Duty{{Due: 10}, {Farm: 1, Due: 19}, {Due: 20}},
		Rights: []api.Right{{Kind: api.TakeR, Litres: 1, To: 19, Every: 1, Length: 1}, {Kind: api.TakeR, Farm: 1, Litres: 1, To: 19, Every: 1, Length: 1}},
	}
}

func done(no, duty, at, known int) api.Done {
	return api.Done{No: no, Duty: duty, At: at, Known: known}
}

// P30.1: valid entries.
func TestCheck(t *testing.T) {
	d := district()
	for i, x := range []struct {
		d    api.District
		l    []api.Done
		want api.Errno
	}{
		{d, nil, api.OK}, {d, []api.Done{done(0, 0, 0, 0), done(1<<20, 2, 4096, 1<<20)}, api.OK}, {api.District{}, make([]api.Done, 513), api.ErrDistrict}, {d, make([]api.Done, 513), api.ErrLimit}, {d, make([]api.Done, 512), api.ErrDuty}, {d, []api.Done{done(1, 0, 0, 0), done(1, 0, 0, 0)}, api.ErrDuty},
		{d, []api.Done{done(-1, 0, 0, 0)}, api.ErrDuty}, {d, []api.Done{done(1<<20+1, 0, 0, 0)}, api.ErrDuty}, {d, []api.Done{done(0, 3, 0, 0)}, api.ErrDuty}, {d, []api.Done{done(0, -1, 0, 0)}, api.ErrDuty}, {d, []api.Done{done(0, 0, -1, 0)}, api.ErrDuty}, {d, []api.Done{done(0, 0, 4097, 4097)}, api.ErrDuty}, {d, []api.Done{done(0, 0, 5, 4)}, api.ErrDuty}, {d, []api.Done{done(0, 0, 5, 1<<20+1)}, api.ErrDuty},
	} {
		_, e1 := Late(x.d, x.l, 0, 0)
		_, e2 := Active(x.d, x.l, nil, 0)
		_, e3 := Fine(x.d, x.l, 0, 0, 0)
		if e := Check(x.d, x.l); e != x.want || e1 != e || e2 != e || e3 != e {
			t.Errorf("case %d: %d, %d, %d, %d, want %d", i, e, e1, e2, e3, x.want)
		}
	}
}

// P30.1 and P30.2: what is overdue, which claims are active, and what is to be paid.
func TestOverdue(t *testing.T) {
	d := district()
	l := []api.Done{done(3, 0, 15, 16), done(4, 0, 12, 30), done(9, 1, 3, 3)}
	var c []api.Claim
	for hour := range d.Hours {
		c = append(c, api.Claim{Hour: hour, Litres: 1}, api.Claim{Right: 1, Farm: 1, Hour: hour, Litres: 1})
	}
	for _, x := range []struct{ known, from, to, other int }{{0, 10, 19, 19}, {3, 10, 19, 20}, {15, 10, 19, 20}, {16, 10, 14, 20}, {30, 10, 11, 20}} {
		active, e := Active(d, l, c, x.known)
		if e != api.OK {
			t.Fatal(e)
		}
		for hour := range d.Hours {
			var want []int
			if x.from <= hour && hour <= x.to {
				want = append(want, 0)
			}
			if hour >= x.other {
				want = append(want, 1)
			}
			if late, e := Late(d, l, hour, x.known); e != api.OK || !slices.Equal(late, want) {
				t.Errorf("Late(%d, %d) = %v", hour, x.known, late)
			}
			for farm := range d.Farms {
				is := slices.ContainsFunc(active, func(y api.Claim) bool { return y.Farm == farm && y.Hour == hour })
				if is == slices.Contains(want, farm) {
					t.Errorf("the farm %d in the hour %d, as known at %d", farm, hour, x.known)
				}
			}
		}
		if n, e := Fine(d, l, 0, x.known, 5); n != 5*(x.to-x.from+1) || e != api.OK {
			t.Errorf("Fine at %d = %d", x.known, n)
		}
		if n, _ := Fine(d, l, 1, x.known, 1<<20); n != (20-x.other)<<20 {
			t.Errorf("Fine of the other farm = %d", n)
		}
	}
	d.Duties = nil
	if late, e := Late(d, nil, 0, 0); e != api.OK || len(late) != 0 {
		t.Error("no duties")
	}
}

// P30.1 and P30.2: arguments that are wrong.
func TestArguments(t *testing.T) {
	d := district()
	for _, x := range [][2]int{{-1, 0}, {20, 0}, {0, -1}, {0, 1<<20 + 1}} {
		if _, e := Late(d, nil, x[0], x[1]); e != api.ErrArg {
			t.Errorf("Late(%v)", x)
		}
	}
	for _, x := range [][3]int{{2, 0, 0}, {-1, 0, 0}, {0, -1, 0}, {0, 1<<20 + 1, 0}, {0, 0, -1}, {0, 0, 1<<20 + 1}} {
		if n, e := Fine(d, nil, x[0], x[1], x[2]); e != api.ErrArg || n != 0 {
			t.Errorf("Fine(%v)", x)
		}
	}
	for _, known := range []int{-1, 1<<20 + 1} {
		if _, e := Active(d, nil, nil, known); e != api.ErrArg {
			t.Errorf("Active(%d)", known)
		}
	}
	if _, e := Active(d, nil, make([]api.Claim, 1), -1); e != api.ErrClaim {
		t.Error("wrong claims")
	}
	if _, e := Active(d, make([]api.Done, 2), make([]api.Claim, 1), -1); e != api.ErrDuty {
		t.Error("wrong entries")
	}
}

// P30.3 to P30.5: duties performed in time, what becomes known later, and further entries.
func TestLaws(t *testing.T) {
	r := rand.New(rand.NewSource(30))
	d := district()
	for i := range d.Duties {
		d.Duties[i].Due = 5 + 3*i
	}
	for range 500 {
		var l []api.Done
		for no := range r.Intn(6) {
			at := r.Intn(20)
			l = append(l, done(no, r.Intn(3), at, at+r.Intn(10)))
		}
		hour, known := r.Intn(20), r.Intn(30)
		late, _ := Late(d, l, hour, known)
		fine, _ := Fine(d, l, 0, known, 7)
		one, _ := Fine(d, l, 0, known, 1)
		early := slices.DeleteFunc(slices.Clone(l), func(x api.Done) bool { return x.Known > known })
		same, _ := Late(d, early, hour, known)
		if !slices.Equal(same, late) || fine != 7*one {
			t.Fatal("what becomes known later")
		}
		for duty := range d.Duties {
			performed := slices.ContainsFunc(early, func(x api.Done) bool { return x.Duty == duty && x.At <= hour })
			if slices.Contains(late, duty) != (hour >= d.Duties[duty].Due && !performed) {
				t.Fatalf("the duty %d", duty)
			}
		}
		more := append(slices.Clone(l), done(99, r.Intn(3), r.Intn(20), 25))
		less, _ := Late(d, more, hour, known)
		lower, _ := Fine(d, more, 0, known, 7)
		if slices.ContainsFunc(less, func(x int) bool { return !slices.Contains(late, x) }) || lower > fine {
			t.Fatal("a further entry")
		}
		inTime := []api.Done{done(0, 0, 5, 5), done(1, 2, 11, 11)}
		if n, _ := Fine(d, inTime, 0, 11, 9); n != 0 {
			t.Fatal("duties performed in time")
		}
	}
}
