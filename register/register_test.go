package register

import (
	"math/rand"
	"reflect"
	"slices"
	"testing"

	"acequia/api"
)

// district has three farms and two rights to 5 and 100 litres, of the farms 0 and 1, with a private reach in between.
func district() api.District {
	d := api.District{Hours: 20, Reaches: []api.Reach{{Up: -1, Delay: 1, Seep: [2]api.Ratio{{D: 1}, {D: 1}}}}}
	for range 3 {
		d.Farms = append(d.Farms, api.Farm{Crop: -1})
	}
	take := api.Right{Kind: api.TakeR, Litres: 5, To: 19, Every: 1, Length: 1, Rank: 3}
	other := take
	other.Farm, other.Litres, other.Rank = 1, 100, 1
	d.Rights = []api.Right{take, {Kind: api.OwnR, To: 19}, other}
	return d
}

func pass(no, right, from, to, at, known int) api.Deed {
	return api.Deed{No: no, Kind: api.PassD, Right: right, From: from, To: to, At: at, Known: known}
}

func split(no, right, from, at, known int, parts ...api.Part) api.Deed {
	return api.Deed{No: no, Kind: api.SplitD, Right: right, From: from, At: at, Known: known, Parts: parts}
}

func lapse(no, right, from, at, known int) api.Deed {
	return api.Deed{No: no, Kind: api.LapseD, Right: right, From: from, At: at, Known: known}
}

func void(no, of, known int) api.Deed {
	return api.Deed{No: no, Kind: api.VoidD, Of: of, Known: known}
}

func part(farm, n, d int) api.Part { return api.Part{Farm: farm, Share: api.Ratio{N: n, D: d}} }

func halves() []api.Part { return []api.Part{part(0, 1, 2), part(2, 1, 2)} }

// P25.1: deeds that are right.
func TestCheck(t *testing.T) {
	d := district()
	good := []api.Deed{pass(1, 0, 0, 1, 3, 2), split(2, 2, 1, 0, 0, halves()...), lapse(5, 0, 1, 4096, 1<<20), void(6, 1, 2), void(7, 1, 9)}
	if e := Check(d, good); e != api.OK {
		t.Fatalf("Check: %d", e)
	}
	many := make([]api.Part, 16)
	for i, x := range [][]api.Deed{
		{pass(-1, 0, 0, 1, 0, 0)}, {pass(1<<20+1, 0, 0, 1, 0, 0)}, {pass(1, 0, 0, 1, 0, 0), pass(1, 0, 1, 0, 0, 0)}, {pass(2, 0, 0, 1, 0, 0), pass(1, 0, 1, 0, 0, 0)}, {{Kind: 0}}, {{Kind: 5}}, {pass(1, 0, 0, 1, -1, 0)}, {pass(1, 0, 0, 1, 4097, 0)}, {pass(1, 0, 0, 1, 0, -1)}, {pass(1, 0, 0, 1, 0, 1<<20+1)},
		{pass(1, 1, 0, 1, 0, 0)}, {pass(1, 3, 0, 1, 0, 0)}, {pass(1, -1, 0, 1, 0, 0)}, {pass(1, 0, 0, 0, 0, 0)}, {pass(1, 0, 3, 0, 0, 0)}, {pass(1, 0, 0, 3, 0, 0)}, {{Kind: api.PassD, To: 1, Of: 1}}, {{Kind: api.PassD, To: 1, Parts: halves()}},
		{split(1, 0, 0, 0, 0)}, {split(1, 0, 0, 0, 0, part(0, 1, 2), part(1, 1, 3))}, {split(1, 0, 0, 0, 0, part(0, 1, 2), part(0, 1, 2))}, {split(1, 0, 0, 0, 0, part(0, 2, 4), part(1, 1, 2))}, {split(1, 0, 0, 0, 0, part(0, 0, 1), part(1, 1, 1))}, {split(1, 0, 0, 0, 0, part(0, -1, 1), part(1, 2, 1))}, {split(1, 0, 0, 0, 0, part(3, 1, 1))}, {split(1, 0, 0, 0, 0, many...)},
		{split(1, 0, 0, 0, 0, part(0, 1, 1<<30), part(1, 1, 1<<29-1), part(2, 1, 2))}, {{Kind: api.SplitD, To: 1, Parts: halves()}}, {{Kind: api.LapseD, To: 1}}, {{Kind: api.LapseD, Parts: halves()}}, {{Kind: api.LapseD, Of: 1}},
		{void(1, 0, 0)}, {void(1, 1, 0)}, {pass(1, 0, 0, 1, 0, 5), void(2, 1, 4)}, {pass(1, 0, 0, 1, 0, 5), void(2, 1, 5), void(3, 2, 6)}, {void(1, 2, 0), pass(2, 0, 0, 1, 0, 0)}, {pass(1, 0, 0, 1, 0, 0), {No: 2, Kind: api.VoidD, Of: 1, Right: 2}}, {pass(1, 0, 0, 1, 0, 0), {No: 2, Kind: api.VoidD, Of: 1, From: 1}}, {pass(1, 0, 0, 1, 0, 0), {No: 2, Kind: api.VoidD, Of: 1, Parts: halves()}},
	} {
		_, e1 := Add(d, x, pass(900, 0, 0, 1, 0, 0))
		_, e2 := At(d, x, -1, 0)
		_, e3 := Empty(d, x, -1)
		if e := Check(d, x); e != api.ErrDeed || e1 != e || e2 != e || e3 != e {
			t.Errorf("deeds %d: %d, %d, %d, %d", i, e, e1, e2, e3)
		}
	}
	if Check(d, make([]api.Deed, 513)) != api.ErrLimit || Check(d, []api.Deed{{Parts: make([]api.Part, 17)}}) != api.ErrLimit || Check(api.District{}, make([]api.Deed, 513)) != api.ErrDistrict {
		t.Error("limits")
	}
}

// P25.1: deeds are added at their place.
func TestAdd(t *testing.T) {
	d := district()
	l := []api.Deed{pass(2, 0, 0, 1, 3, 2), lapse(5, 0, 1, 4, 4)}
	for _, x := range []struct {
		x    api.Deed
		at   int
		want api.Errno
	}{{pass(1, 0, 1, 0, 0, 0), 0, 0}, {pass(3, 0, 1, 0, 0, 0), 1, 0}, {void(9, 2, 2), 2, 0}, {void(1, 2, 2), 0, api.ErrDeed}, {pass(5, 0, 0, 0, 0, 0), 0, api.ErrTwice}, {pass(-1, 0, 1, 0, 0, 0), 0, api.ErrDeed}, {api.Deed{No: 7, Parts: make([]api.Part, 17)}, 0, api.ErrLimit}} {
		y, e := Add(d, l, x.x)
		if e != x.want || e == api.OK && (len(y) != 3 || y[x.at].No != x.x.No) || e != api.OK && y != nil {
			t.Errorf("Add(%v) = %v, %d", x.x, y, e)
		}
	}
	if len(l) != 2 || l[0].No != 2 || l[1].No != 5 {
		t.Error("the argument has changed")
	}
	var full []api.Deed
	for i := range 512 {
		full = append(full, pass(i, 0, 0, 1, 0, 0))
	}
	if _, e := Add(d, full, pass(999, 0, 0, 1, 0, 0)); e != api.ErrLimit {
		t.Error("a deed too many")
	}
}

func hold(right, farm, litres int) api.Holding {
	return api.Holding{Right: right, Farm: farm, Litres: litres, Rank: map[int]int{0: 3, 2: 1}[right]}
}

// P25.2 and P25.3: holdings, and deeds without effect.
func TestAtAndEmpty(t *testing.T) {
	d := district()
	other := hold(2, 1, 100)
	third := split(1, 0, 0, 2, 1, part(2, 1, 3), part(0, 1, 3), part(1, 1, 3))
	for i, x := range []struct {
		l           []api.Deed
		hour, known int
		want        []api.Holding
		empty       []int
	}{
		{nil, 0, 0, []api.Holding{hold(0, 0, 5), other}, nil},
		{[]api.Deed{pass(1, 0, 0, 1, 3, 2)}, 3, 1, []api.Holding{hold(0, 0, 5), other}, nil},
		{[]api.Deed{pass(1, 0, 0, 1, 3, 2)}, 2, 2, []api.Holding{hold(0, 0, 5), other}, nil},
		{[]api.Deed{pass(1, 0, 0, 1, 3, 2)}, 3, 2, []api.Holding{hold(0, 1, 5), other}, nil},
		{[]api.Deed{split(1, 0, 0, 0, 0, halves()...)}, 0, 0, []api.Holding{hold(0, 0, 3), hold(0, 2, 2), other}, nil},
		{[]api.Deed{third}, 2, 1, []api.Holding{hold(0, 0, 2), hold(0, 1, 1), hold(0, 2, 2), other}, nil},
		{[]api.Deed{third, pass(2, 0, 2, 1, 2, 1)}, 2, 1, []api.Holding{hold(0, 0, 2), hold(0, 1, 3), other}, nil},
		{[]api.Deed{third, pass(2, 0, 2, 1, 1, 1)}, 2, 1, []api.Holding{hold(0, 0, 2), hold(0, 1, 1), hold(0, 2, 2), other}, []int{2}},
		{[]api.Deed{lapse(1, 0, 0, 0, 0), pass(2, 0, 0, 1, 0, 0), lapse(3, 2, 1, 19, 0)}, 18, 0, []api.Holding{other}, []int{2}},
		{[]api.Deed{lapse(1, 0, 0, 0, 0), void(2, 1, 7)}, 0, 6, []api.Holding{other}, nil},
		{[]api.Deed{lapse(1, 0, 0, 0, 0), void(2, 1, 7)}, 0, 7, []api.Holding{hold(0, 0, 5), other}, nil},
		{[]api.Deed{pass(1, 0, 2, 1, 30, 0), pass(4, 0, 1, 2, 20, 0)}, 0, 0, []api.Holding{hold(0, 0, 5), other}, []int{1, 4}},
	} {
		if h, e := At(d, x.l, x.hour, x.known); e != api.OK || !reflect.DeepEqual(h, x.want) {
			t.Errorf("case %d: %v, %d", i, h, e)
		}
		if no, e := Empty(d, x.l, x.known); e != api.OK || !slices.Equal(no, x.empty) {
			t.Errorf("case %d: Empty %v, %d", i, no, e)
		}
	}
	for _, x := range [][2]int{{-1, 0}, {20, 0}, {0, -1}, {0, 1<<20 + 1}} {
		if h, e := At(d, nil, x[0], x[1]); e != api.ErrArg || h != nil {
			t.Errorf("At(%v)", x)
		}
	}
	for _, known := range []int{-1, 1<<20 + 1} {
		if _, e := Empty(d, nil, known); e != api.ErrArg {
			t.Errorf("Empty(%d)", known)
		}
	}
}

func random(r *rand.Rand) (l []api.Deed) {
	for no := range r.Intn(8) {
		right, from, at, known := 2*r.Intn(2), r.Intn(3), r.Intn(6), r.Intn(6)
		x := []api.Deed{pass(no, right, from, (from+1)%3, at, known), split(no, right, from, at, known, halves()...), lapse(no, right, from, at, known), void(no, r.Intn(max(1, no)), 5)}[r.Intn(4)]
		if Check(district(), append(slices.Clone(l), x)) == api.OK {
			l = append(l, x)
		}
	}
	return l
}

// P25.4 to P25.6: nothing is lost; what never was; what comes later.
func TestLaws(t *testing.T) {
	d := district()
	r := rand.New(rand.NewSource(25))
	for range 1000 {
		l := random(r)
		hour, known := r.Intn(7), r.Intn(7)
		h, _ := At(d, l, hour, known)
		sums := map[int]int{}
		for _, x := range h {
			sums[x.Right] += x.Litres
		}
		for _, right := range []int{0, 2} {
			lapses := slices.ContainsFunc(l, func(x api.Deed) bool { return x.Kind == api.LapseD && x.Right == right })
			if n := sums[right]; n > d.Rights[right].Litres || !lapses && n != d.Rights[right].Litres {
				t.Fatalf("%v: %d litres", l, n)
			}
		}
		never := map[int]bool{}
		for _, x := range l {
			if x.Kind == api.VoidD && x.Known <= known {
				never[x.No], never[x.Of] = true, true
			}
		}
		empty, _ := Empty(d, l, known)
		for i, drop := range []func(x api.Deed) bool{
			func(x api.Deed) bool { return never[x.No] || never[x.Of] && x.Kind == api.VoidD },
			func(x api.Deed) bool { return x.Known > known },
			func(x api.Deed) bool { return x.At > hour && x.Kind != api.VoidD },
			func(x api.Deed) bool { return len(empty) > 0 && x.No == empty[0] },
		} {
			fewer := slices.DeleteFunc(slices.Clone(l), drop)
			if Check(d, fewer) != api.OK {
				continue
			}
			if g, e := At(d, fewer, hour, known); e != api.OK || !reflect.DeepEqual(g, h) {
				t.Fatalf("case %d of %v: %v, %v", i, l, g, h)
			}
		}
	}
}

// P25.6: two deeds are added in either order.
func TestOrderOfDeeds(t *testing.T) {
	r := rand.New(rand.NewSource(26))
	d := district()
	both := 0
	for range 500 {
		l := random(r)
		a, b := pass(20+r.Intn(3), 0, 0, 1+r.Intn(2), r.Intn(9), r.Intn(9)), void(20+r.Intn(4), r.Intn(8), r.Intn(9))
		one, e1 := Add(d, l, a)
		one, e2 := Add(d, one, b)
		two, e3 := Add(d, l, b)
		two, e4 := Add(d, two, a)
		if e1 != api.OK || e2 != api.OK || e3 != api.OK || e4 != api.OK {
			continue
		}
		both++
		if !reflect.DeepEqual(one, two) {
			t.Fatalf("%v and %v", one, two)
		}
	}
	if both < 20 {
		t.Errorf("only %d pairs are accepted in both orders", both)
	}
}
