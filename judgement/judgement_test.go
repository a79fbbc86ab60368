package judgement

import (
	"math/rand"
	"reflect"
	"slices"
	"testing"

	"acequia/api"
	"acequia/claims"
	"acequia/precedents"
	"acequia/timetable"
)

// district has the farms 0, 1 and 2 at the reach 0, and 3 at the reach 1, and rights of the ranks 0 to 3.
func district() api.District {
	d := api.District{Hours: 10}
	for i := range 2 {
		d.Reaches = append(d.Reaches, api.Reach{Up: i - 1, Delay: 1, Seep: [2]api.Ratio{{D: 1}, {D: 1}}})
	}
	for i, reach := range []int{0, 0, 0, 1} {
		d.Farms = append(d.Farms, api.Farm{Reach: reach, Crop: -1})
		d.Rights = append(d.Rights, api.Right{Kind: api.TakeR, Farm: i, Rank: i, Litres: 5, To: 9, Every: 1, Length: 1})
	}
	return d
}

func claim(hour, right, farm, litres int) api.Claim {
	return api.Claim{Right: right, Farm: farm, Hour: hour, Litres: litres, Rank: right}
}

func order(no, hour, kind, farm, other, from, to, n int) api.Judgement {
	return api.Judgement{No: no, Hour: hour, Kind: kind, Farm: farm, Other: other, From: from, To: to, N: n}
}

func end(no, hour, of int) api.Judgement { return api.Judgement{No: no, Hour: hour, Of: of + 1} }

// P53.1: judgements that are right.
func TestCheck(t *testing.T) {
	d := district()
	good := order(1, 2, api.LimitJ, 3, 0, 0, 9, 1<<30)
	for i, x := range []struct {
		j    []api.Judgement
		want api.Errno
	}{
		{nil, 0}, {[]api.Judgement{good, end(2, 2, 1), order(1<<20, 10, api.FineJ, 0, 3, 0, 0, 1)}, 0}, {make([]api.Judgement, 65), api.ErrLimit}, {[]api.Judgement{order(0, 0, api.ReturnJ, 0, 2, 0, 9, 5), order(1, 0, api.CloseJ, 0, 0, 0, 9, 0)}, 0},
		{[]api.Judgement{good, good}, api.ErrJudge}, {[]api.Judgement{order(-1, 0, api.CloseJ, 0, 0, 0, 9, 0)}, api.ErrJudge}, {[]api.Judgement{order(1<<20+1, 0, api.CloseJ, 0, 0, 0, 9, 0)}, api.ErrJudge}, {[]api.Judgement{good, order(2, 1, api.CloseJ, 0, 0, 0, 9, 0)}, api.ErrJudge}, {[]api.Judgement{order(0, 11, api.CloseJ, 0, 0, 0, 9, 0)}, api.ErrJudge}, {[]api.Judgement{order(0, -1, api.CloseJ, 0, 0, 0, 9, 0)}, api.ErrJudge},
		{[]api.Judgement{order(0, 0, 0, 0, 0, 0, 9, 1)}, api.ErrJudge}, {[]api.Judgement{order(0, 0, 5, 0, 0, 0, 9, 1)}, api.ErrJudge}, {[]api.Judgement{order(0, 0, api.CloseJ, 4, 0, 0, 9, 0)}, api.ErrJudge}, {[]api.Judgement{order(0, 0, api.CloseJ, 0, 0, 0, 9, 1)}, api.ErrJudge}, {[]api.Judgement{order(0, 0, api.CloseJ, 0, 1, 0, 9, 0)}, api.ErrJudge}, {[]api.Judgement{order(0, 0, api.CloseJ, 0, 0, 0, 10, 0)}, api.ErrJudge}, {[]api.Judgement{order(0, 0, api.CloseJ, 0, 0, 3, 2, 0)}, api.ErrJudge}, {[]api.Judgement{order(0, 0, api.CloseJ, 0, 0, -1, 2, 0)}, api.ErrJudge},
		{[]api.Judgement{order(0, 0, api.LimitJ, 0, 0, 0, 9, 0)}, api.ErrJudge}, {[]api.Judgement{order(0, 0, api.LimitJ, 0, 0, 0, 9, 1<<30+1)}, api.ErrJudge}, {[]api.Judgement{order(0, 0, api.LimitJ, 0, 1, 0, 9, 1)}, api.ErrJudge}, {[]api.Judgement{order(0, 0, api.ReturnJ, 0, 0, 0, 9, 1)}, api.ErrJudge}, {[]api.Judgement{order(0, 0, api.ReturnJ, 0, 3, 0, 9, 1)}, api.ErrJudge}, {[]api.Judgement{order(0, 0, api.ReturnJ, 0, 4, 0, 9, 1)}, api.ErrJudge}, {[]api.Judgement{order(0, 0, api.FineJ, 0, 0, 0, 9, 1)}, api.ErrJudge}, {[]api.Judgement{order(0, 0, api.FineJ, 0, 1, 0, 9, 0)}, api.ErrJudge},
		{[]api.Judgement{end(1, 0, 1)}, api.ErrJudge}, {[]api.Judgement{good, end(2, 2, 0)}, api.ErrJudge}, {[]api.Judgement{good, end(2, 2, 1), end(3, 2, 1)}, api.ErrJudge}, {[]api.Judgement{good, end(2, 2, 1), end(3, 2, 2)}, api.ErrJudge}, {[]api.Judgement{good, {No: 2, Hour: 2, Of: 2, Farm: 1}}, api.ErrJudge}, {[]api.Judgement{good, {No: 2, Hour: 2, Of: -1}}, api.ErrJudge},
	} {
		_, e1 := Execute(d, make([]api.Claim, 1), x.j)
		_, e2 := Fines(d, x.j, -1)
		want1, want2 := x.want, x.want
		if x.want == api.OK {
			want1, want2 = api.ErrClaim, api.ErrArg
		}
		if e := Check(d, x.j); e != x.want || e1 != want1 || e2 != want2 {
			t.Errorf("case %d: %d, %d, %d", i, e, e1, e2)
		}
	}
	if Check(api.District{}, make([]api.Judgement, 65)) != api.ErrDistrict {
		t.Error("the zero district")
	}
}

// P53.1: claims after judgements.
func TestExecute(t *testing.T) {
	d := district()
	c := []api.Claim{claim(3, 0, 0, 4), claim(3, 1, 0, 4), claim(3, 1, 1, 7), claim(3, 3, 3, 2), claim(5, 0, 0, 4)}
	for i, x := range []struct {
		j    []api.Judgement
		want []api.Claim
	}{
		{nil, c},
		{[]api.Judgement{order(0, 0, api.CloseJ, 0, 0, 0, 4, 0)}, []api.Claim{c[2], c[3], c[4]}},
		{[]api.Judgement{order(0, 4, api.CloseJ, 0, 0, 0, 9, 0)}, c[:4]},
		{[]api.Judgement{order(0, 0, api.CloseJ, 0, 0, 0, 9, 0), end(1, 4, 0)}, c[2:]},
		{[]api.Judgement{order(0, 0, api.LimitJ, 0, 0, 3, 3, 5)}, []api.Claim{claim(3, 0, 0, 4), claim(3, 1, 0, 1), c[2], c[3], c[4]}},
		{[]api.Judgement{order(0, 0, api.LimitJ, 0, 0, 3, 3, 4)}, []api.Claim{claim(3, 0, 0, 4), c[2], c[3], c[4]}},
		{[]api.Judgement{order(0, 0, api.ReturnJ, 0, 1, 3, 3, 5)}, []api.Claim{claim(3, 0, 0, 3), claim(3, 0, 1, 1), claim(3, 1, 1, 11), c[3], c[4]}},
		{[]api.Judgement{order(0, 0, api.ReturnJ, 0, 2, 3, 3, 4)}, []api.Claim{c[0], c[2], claim(3, 1, 2, 4), c[3], c[4]}},
		{[]api.Judgement{order(0, 0, api.ReturnJ, 0, 2, 3, 3, 99)}, []api.Claim{claim(3, 0, 2, 4), c[2], claim(3, 1, 2, 4), c[3], c[4]}},
		{[]api.Judgement{order(0, 0, api.ReturnJ, 0, 2, 3, 3, 99), order(1, 0, api.CloseJ, 2, 0, 3, 3, 0)}, c[2:]},
		{[]api.Judgement{order(0, 0, api.CloseJ, 2, 0, 3, 3, 0), order(1, 0, api.ReturnJ, 0, 2, 3, 3, 99)}, []api.Claim{claim(3, 0, 2, 4), c[2], claim(3, 1, 2, 4), c[3], c[4]}},
		{[]api.Judgement{order(0, 0, api.FineJ, 0, 1, 0, 9, 5)}, c},
	} {
		before := slices.Clone(c)
		if y, e := Execute(d, c, x.j); e != api.OK || !slices.Equal(y, x.want) || !slices.Equal(c, before) {
			t.Errorf("case %d: %v, %d", i, y, e)
		}
	}
	great := []api.Claim{claim(3, 0, 0, 1<<30), claim(3, 0, 1, 1)}
	back := []api.Judgement{order(0, 0, api.ReturnJ, 0, 1, 3, 3, 1<<30)}
	if y, e := Execute(d, great, back); e != api.ErrLimit || y != nil {
		t.Error("a claim that is too great")
	}
	if y, e := Execute(d, great, append(back, order(1, 0, api.LimitJ, 1, 0, 3, 3, 5))); e != api.OK || !slices.Equal(y, []api.Claim{claim(3, 0, 1, 5)}) {
		t.Errorf("a claim that is too great for a while: %v, %d", y, e)
	}
	d.Hours = 4096
	var many []api.Claim
	for hour := range 4096 {
		many = append(many, claim(hour, 0, 0, 2))
	}
	if _, e := Execute(d, many, []api.Judgement{order(0, 0, api.ReturnJ, 0, 1, 3, 3, 1)}); e != api.ErrLimit {
		t.Error("4097 claims")
	}
}

// P53.2: fines.
func TestFines(t *testing.T) {
	d := district()
	j := []api.Judgement{order(1, 2, api.FineJ, 0, 3, 0, 0, 7), order(2, 3, api.FineJ, 3, 1, 5, 6, 2), order(3, 3, api.CloseJ, 0, 0, 0, 9, 0), end(4, 8, 1)}
	for hour, want := range map[int][]int{0: {0, 0, 0, 0}, 2: {7, 0, 0, -7}, 3: {7, -2, 0, -5}, 7: {7, -2, 0, -5}, 8: {0, -2, 0, 2}, 10: {0, -2, 0, 2}} {
		if l, e := Fines(d, j, hour); e != api.OK || !slices.Equal(l, want) {
			t.Errorf("Fines(%d) = %v", hour, l)
		}
	}
	for _, hour := range []int{-1, 11} {
		if l, e := Fines(d, j, hour); e != api.ErrArg || l != nil {
			t.Errorf("Fines(%d): %d", hour, e)
		}
	}
}

// P53.4, P53.5 and P53.7: from its date on, ended, and right claims.
func TestLaws(t *testing.T) {
	r := rand.New(rand.NewSource(53))
	d := district()
	for range 1000 {
		var c []api.Claim
		for hour := range 10 {
			for right := range 4 {
				for farm := range 4 {
					if r.Intn(6) == 0 {
						c = append(c, claim(hour, right, farm, 1+r.Intn(9)))
					}
				}
			}
		}
		var j []api.Judgement
		cut, named := false, map[int]bool{}
		for no := range r.Intn(5) {
			from := r.Intn(10)
			x := order(no, no*2, 1+r.Intn(4), r.Intn(2), 2, from, from+r.Intn(10-from), 1+r.Intn(9))
			if x.Kind == api.CloseJ || x.Kind == api.LimitJ {
				cut, x.Other = true, 0
			}
			if x.Kind == api.CloseJ {
				x.N = 0
			}
			j = append(j, x)
			named[x.Farm], named[x.Other] = true, true
		}
		y, e := Execute(d, c, j)
		if e != api.OK || claims.Check(d, y) != api.OK {
			t.Fatalf("Execute: %d", e)
		}
		sums := [10]int{}
		for _, x := range c {
			sums[x.Hour] -= x.Litres
			if (len(j) == 0 || x.Hour < j[0].Hour || !named[x.Farm]) && !slices.Contains(y, x) {
				t.Fatalf("%v is changed", x)
			}
		}
		for _, x := range y {
			sums[x.Hour] += x.Litres
		}
		for _, n := range sums {
			if n > 0 || n < 0 && !cut {
				t.Fatalf("%v", sums)
			}
		}
		checkEnded(t, d, c, j)
	}
}

// checkEnded ends the first judgement.
func checkEnded(t *testing.T, d api.District, c []api.Claim, j []api.Judgement) {
	t.Helper()
	if len(j) == 0 {
		return
	}
	ended := append(slices.Clone(j), end(99, 9, j[0].No))
	a, _ := Execute(d, c, ended)
	b, _ := Execute(d, c, j[1:])
	fa, _ := Fines(d, ended, 9)
	fb, _ := Fines(d, j[1:], 9)
	late := func(l []api.Claim) []api.Claim {
		return slices.DeleteFunc(slices.Clone(l), func(x api.Claim) bool { return x.Hour < 9 })
	}
	sum := 0
	for _, n := range fa {
		sum += n
	}
	if !slices.Equal(late(a), late(b)) || !slices.Equal(fa, fb) || sum != 0 {
		t.Fatalf("%v is ended: %v, %v", j[0], late(a), late(b))
	}
}

func suit(no, hour int, facts ...int) api.Suit {
	return api.Suit{No: no, Hour: hour, Question: 1, Facts: facts}
}

// P53.3: suits by precedents, and by pleas.
func TestDecideAndSit(t *testing.T) {
	b := api.Cases{Sides: []int{0, 0, 1, 1}}
	won := suit(4, 5, 0, 2)
	won.Plea.Facts = []int{1}
	for i, x := range []struct {
		b    api.Cases
		s    api.Suit
		want api.Case
		e    api.Errno
	}{
		{b, won, api.Case{No: 4, Hour: 5, Facts: []int{0, 2}, Reason: []int{0}}, 0}, {b, suit(4, 5, 0, 2), api.Case{No: 4, Hour: 5, Winner: 1, Facts: []int{0, 2}, Reason: []int{2}}, 0},
		{api.Cases{Sides: b.Sides, Cases: []api.Case{{No: 1, Hour: 5, Winner: 1, Facts: []int{0, 2}, Reason: []int{2}}}}, won, api.Case{No: 4, Hour: 5, Winner: 1, Facts: []int{0, 2}, Reason: []int{2}}, 0}, {api.Cases{Sides: b.Sides, Cases: []api.Case{{No: 1, Hour: 5, Facts: []int{0, 2}, Reason: []int{0}}}}, suit(4, 5, 0, 2), api.Case{No: 4, Hour: 5, Facts: []int{0, 2}, Reason: []int{0}}, 0},
		{api.Cases{Sides: []int{2}}, api.Suit{Plea: api.Plea{Facts: []int{0}}}, api.Case{}, api.ErrCase}, {b, api.Suit{Plea: api.Plea{Facts: []int{0}}, Facts: []int{9}}, api.Case{}, api.ErrPlea}, {b, api.Suit{Facts: []int{9}}, api.Case{}, api.ErrArg}, {b, api.Suit{Question: 33}, api.Case{}, api.ErrArg}, {b, suit(0, 0, 4), api.Case{}, api.ErrCase}, {b, suit(0, 0, 1, 0), api.Case{}, api.ErrCase}, {b, suit(-1, 0), api.Case{}, api.ErrCase}, {b, suit(1<<20+1, 0), api.Case{}, api.ErrCase}, {b, suit(0, 4097), api.Case{}, api.ErrCase}, {b, suit(0, -1), api.Case{}, api.ErrCase},
		{api.Cases{Cases: []api.Case{{No: 4}}}, suit(4, 0), api.Case{}, api.ErrCase}, {api.Cases{Cases: []api.Case{{No: 4, Hour: 3}}}, suit(5, 2), api.Case{}, api.ErrCase},
	} {
		c, e := Decide(x.b, x.s)
		sat, f := Sit(x.b, []api.Suit{x.s})
		if e != x.e || f != x.e || !reflect.DeepEqual(c, x.want) || e == api.OK && !reflect.DeepEqual(sat.Cases[len(sat.Cases)-1], c) || e != api.OK && sat.Cases != nil {
			t.Errorf("suit %d: %v, %d, %d", i, c, e, f)
		}
	}
	var many []api.Suit
	for i := range 65 {
		many = append(many, suit(i, 0))
	}
	if x, e := Sit(api.Cases{}, many[:64]); e != api.OK || len(x.Cases) != 64 {
		t.Error("64 cases")
	}
	if x, e := Sit(api.Cases{}, many); e != api.ErrLimit || x.Cases != nil {
		t.Error("65 cases")
	}
	if x, e := Sit(b, nil); e != api.OK || len(x.Cases) != 0 || !slices.Equal(x.Sides, b.Sides) {
		t.Error("no suits")
	}
}

// P53.6: the court never contradicts itself.
func TestWithoutClash(t *testing.T) {
	r := rand.New(rand.NewSource(54))
	for range 300 {
		b := api.Cases{Sides: []int{0, 0, 1, 1}}
		for no := range 8 {
			s := suit(no, no)
			for i := range 4 {
				if r.Intn(2) == 0 {
					s.Facts = append(s.Facts, i)
				}
			}
			if r.Intn(2) == 0 {
				s.Plea.Facts = []int{1}
			}
			_, zero, _ := precedents.Binds(b, s.Facts, 0)
			_, one, _ := precedents.Binds(b, s.Facts, 1)
			x, e := Sit(b, []api.Suit{s})
			if e != api.OK {
				t.Fatal(e)
			}
			last := x.Cases[len(x.Cases)-1]
			if _, _, clash, _ := precedents.Clash(x); clash || !zero && !one && (last.Winner == 0) != (len(s.Plea.Facts) > 0) {
				t.Fatalf("%v", x)
			}
			b = x
		}
	}
}

// P53.7: what can be served before judgements can be served after them.
func TestTimetable(t *testing.T) {
	r := rand.New(rand.NewSource(55))
	d := district()
	d.Tank = api.Tank{Cap: 100, Start: 100}
	for i := range d.Reaches {
		d.Reaches[i].Cap, d.Reaches[i].Bank = 20, 30
	}
	served := 0
	for range 300 {
		var c []api.Claim
		for hour := 2; hour < 10; hour++ {
			for right := range 4 {
				if r.Intn(3) == 0 {
					c = append(c, claim(hour, right, right, 1+r.Intn(9)))
				}
			}
		}
		if _, ok, _ := timetable.Make(d, c); !ok {
			continue
		}
		served++
		j := []api.Judgement{order(1, 0, api.ReturnJ, 0, 1+r.Intn(2), 0, 9, 1+r.Intn(9)), order(2, r.Intn(9), api.LimitJ, 1, 0, 0, 9, 1+r.Intn(5)), order(3, 9, api.CloseJ, 3, 0, 0, 9, 0)}
		x, e := Execute(d, c, j)
		if _, ok, f := timetable.Make(d, x); e != api.OK || !ok || f != api.OK {
			t.Fatalf("%v becomes %v", c, x)
		}
	}
	if served < 50 {
		t.Errorf("only %d lists of claims are served", served)
	}
}
