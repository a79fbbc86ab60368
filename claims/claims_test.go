package claims

import (
	"math/rand"
	"reflect"
	"slices"
	"testing"

	"acequia/api"
	"acequia/register"
)

// district has the reaches 0, 1 below 0, and 2 below 1, with a farm at each; the farm 1 owns the reach 1.
func district() api.District {
	d := api.District{Hours: 24}
	for i := range 3 {
		d.Reaches = append(d.Reaches, api.Reach{Up: i - 1, Delay: 1, Seep: [2]api.Ratio{{D: 1}, {D: 1}}})
		d.Farms = append(d.Farms, api.Farm{Reach: i, Crop: -1})
	}
	take := func(farm, rank, litres, from, to, every, length int) api.Right {
		return api.Right{Kind: api.TakeR, Farm: farm, Rank: rank, Litres: litres, From: from, To: to, Every: every, Length: length}
	}
	d.Rights = []api.Right{take(0, 2, 7, 2, 20, 6, 2), take(2, 1, 5, 0, 23, 1, 1), {Kind: api.OwnR, Farm: 1, Reach: 1, To: 23}, {Kind: api.EaseR, Farm: 2, Reach: 1, From: 3, To: 8}, take(1, 2, 9, 8, 8, 1, 1)}
	return d
}

func pass(no, right, from, to, at, known int) api.Deed {
	return api.Deed{No: no, Kind: api.PassD, Right: right, From: from, To: to, At: at, Known: known}
}

// P26.1 and P26.2: claims in order, and those that are blocked.
func TestOfAndBlocked(t *testing.T) {
	d := district()
	c, e := Of(d, nil, 7, 9, 0)
	want := []api.Claim{{Right: 1, Farm: 2, Hour: 7, Litres: 5, Rank: 1}, {Right: 1, Farm: 2, Hour: 8, Litres: 5, Rank: 1}, {Right: 0, Farm: 0, Hour: 8, Litres: 7, Rank: 2}, {Right: 4, Farm: 1, Hour: 8, Litres: 9, Rank: 2}, {Right: 0, Farm: 0, Hour: 9, Litres: 7, Rank: 2}}
	if e != api.OK || !reflect.DeepEqual(c, want) {
		t.Errorf("Of = %v, %d", c, e)
	}
	b, e := Blocked(d, nil, 2, 9, 0)
	if e != api.OK || !reflect.DeepEqual(b, []api.Block{{Right: 1, Farm: 2, Hour: 2, Reach: 1}, {Right: 1, Farm: 2, Hour: 9, Reach: 1}}) {
		t.Errorf("Blocked = %v, %d", b, e)
	}
	deeds := []api.Deed{pass(1, 1, 2, 1, 9, 4), {No: 2, Kind: api.SplitD, Right: 0, From: 0, At: 8, Parts: []api.Part{{Farm: 1, Share: api.Ratio{N: 1, D: 2}}, {Farm: 2, Share: api.Ratio{N: 1, D: 2}}}}}
	c, e = Of(d, deeds, 8, 9, 4)
	want = []api.Claim{{Right: 1, Farm: 2, Hour: 8, Litres: 5, Rank: 1}, {Right: 0, Farm: 1, Hour: 8, Litres: 4, Rank: 2}, {Right: 0, Farm: 2, Hour: 8, Litres: 3, Rank: 2}, {Right: 4, Farm: 1, Hour: 8, Litres: 9, Rank: 2}, {Right: 1, Farm: 1, Hour: 9, Litres: 5, Rank: 1}, {Right: 0, Farm: 1, Hour: 9, Litres: 4, Rank: 2}}
	if e != api.OK || !reflect.DeepEqual(c, want) {
		t.Errorf("Of with deeds = %v, %d", c, e)
	}
	open := 0
	for hour := range d.Hours {
		c, _ := Of(d, nil, hour, hour, 0)
		if slices.ContainsFunc(c, func(x api.Claim) bool { return x.Right == 0 }) {
			open |= 1 << hour
		}
	}
	if open != 1<<2|1<<3|1<<8|1<<9|1<<14|1<<15|1<<20 {
		t.Errorf("the right 0 is open in %b", open)
	}
	two := district()
	two.Rights = append(two.Rights, api.Right{Kind: api.OwnR, Farm: 2, Reach: 1, To: 23})
	if b, _ := Blocked(two, nil, 8, 8, 0); !reflect.DeepEqual(b, []api.Block{{Right: 4, Farm: 1, Hour: 8, Reach: 1}}) {
		t.Errorf("a reach with two owners: %v", b)
	}
}

// P26.1 and P26.2: errors and limits.
func TestErrors(t *testing.T) {
	d := district()
	long := district()
	long.Hours, long.Rights = 4096, append(long.Rights, long.Rights[0], long.Rights[0], long.Rights[0])
	long.Rights[2].To = 4095
	for i, x := range []struct {
		d               api.District
		l               []api.Deed
		from, to, known int
		want            api.Errno
	}{
		{api.District{}, nil, 0, 0, 0, api.ErrDistrict}, {d, make([]api.Deed, 1), 0, -1, 0, api.ErrDeed}, {d, nil, 0, 24, 0, api.ErrArg}, {d, nil, -1, 3, 0, api.ErrArg}, {d, nil, 4, 3, 0, api.ErrArg}, {d, nil, 0, 0, -1, api.ErrArg}, {d, nil, 0, 0, 1<<20 + 1, api.ErrArg},
		{long, nil, 0, 512, 0, api.ErrLimit}, {long, nil, 0, 511, 0, api.OK}, {d, nil, 0, 23, 1 << 20, api.OK},
	} {
		c, e := Of(x.d, x.l, x.from, x.to, x.known)
		b, f := Blocked(x.d, x.l, x.from, x.to, x.known)
		if e != x.want || f != x.want || e != api.OK && (c != nil || b != nil) {
			t.Errorf("case %d: %d, %d, want %d", i, e, f, x.want)
		}
	}
	if c, e := Of(api.District{Hours: 1, Reaches: d.Reaches[:1]}, nil, 0, 0, 0); e != api.OK || len(c) != 0 {
		t.Error("no rights")
	}
	split := district()
	split.Hours, split.Rights = 4096, []api.Right{{Kind: api.TakeR, Litres: 10, To: 4095, Every: 1, Length: 1}}
	halves := []api.Deed{{Kind: api.SplitD, Parts: []api.Part{{Farm: 1, Share: api.Ratio{N: 1, D: 2}}, {Farm: 2, Share: api.Ratio{N: 1, D: 2}}}}}
	if c, e := Of(split, halves, 0, 2047, 0); e != api.OK || len(c) != 4096 {
		t.Errorf("4096 claims: %d", e)
	}
	if c, e := Of(split, halves, 0, 2048, 0); e != api.ErrLimit || c != nil {
		t.Errorf("4098 claims: %d", e)
	}
	split.Rights = append(split.Rights, api.Right{Kind: api.OwnR, Farm: 0, To: 4095})
	if b, e := Blocked(split, halves, 0, 2047, 0); e != api.OK || len(b) != 4096 {
		t.Errorf("4096 blocks: %d", e)
	}
}

// P26.3: valid claims.
func TestCheck(t *testing.T) {
	d := district()
	good, _ := Of(d, nil, 0, 23, 0)
	if Check(d, good) != api.OK || Check(d, nil) != api.OK {
		t.Error("right claims")
	}
	if Check(d, []api.Claim{{Right: 0, Farm: 2, Hour: 0, Litres: 1 << 30, Rank: 2}}) != api.OK {
		t.Error("neither register nor hours are consulted")
	}
	for i, x := range []api.Claim{{Right: 0, Rank: 2}, {Right: 0, Litres: 1, Rank: 1}, {Right: 2, Litres: 1}, {Right: 5, Litres: 1}, {Right: -1, Litres: 1}, {Farm: 3, Litres: 1, Rank: 2}, {Farm: -1, Litres: 1, Rank: 2}, {Hour: 24, Litres: 1, Rank: 2}, {Hour: -1, Litres: 1, Rank: 2}, {Litres: 1<<30 + 1, Rank: 2}} {
		if Check(d, []api.Claim{x}) != api.ErrClaim {
			t.Errorf("claim %d", i)
		}
	}
	for i := range good[1:] {
		for _, l := range [][]api.Claim{{good[i], good[i]}, {good[i+1], good[i]}} {
			if Check(d, l) != api.ErrClaim {
				t.Errorf("the order of %v", l)
			}
		}
	}
	if Check(d, make([]api.Claim, 4097)) != api.ErrLimit || Check(api.District{}, make([]api.Claim, 4097)) != api.ErrDistrict {
		t.Error("limits")
	}
}

// P26.4 to P26.6: every holding once, no trespass, easements and parts of the hours.
func TestLaws(t *testing.T) {
	r := rand.New(rand.NewSource(26))
	for range 200 {
		d := district()
		for range r.Intn(4) {
			kind, farm, reach, from := api.OwnR, r.Intn(3), r.Intn(3), r.Intn(10)
			if r.Intn(2) == 0 {
				d.Rights = append(d.Rights, api.Right{Kind: api.EaseR, Farm: farm, Reach: reach, From: from, To: from + r.Intn(14)})
			} else {
				d.Rights = append(d.Rights, api.Right{Kind: kind, Farm: farm, Reach: reach, To: 23})
			}
		}
		l := []api.Deed{pass(1, 0, 0, r.Intn(2)+1, r.Intn(24), r.Intn(3)), pass(2, 1, 2, r.Intn(2), r.Intn(24), r.Intn(3))}
		c, _ := Of(d, l, 0, 23, 1)
		b, _ := Blocked(d, l, 0, 23, 1)
		checkOnce(t, d, l, c, b)
		first, _ := Of(d, l, 0, 11, 1)
		last, _ := Of(d, l, 12, 23, 1)
		early := slices.DeleteFunc(slices.Clone(l), func(x api.Deed) bool { return x.Known > 1 })
		known, _ := Of(d, early, 0, 23, 1)
		if !slices.Equal(append(first, last...), c) || !slices.Equal(known, c) || Check(d, c) != api.OK {
			t.Fatal("parts, and what becomes known later")
		}
		farm := r.Intn(3)
		eased := d
		eased.Rights = append(slices.Clone(d.Rights), api.Right{Kind: api.EaseR, Farm: farm, Reach: r.Intn(3), From: 0, To: 23})
		more, _ := Of(eased, l, 0, 23, 1)
		for _, x := range c {
			if !slices.Contains(more, x) {
				t.Fatal("an easement blocks")
			}
		}
		for _, x := range more {
			if !slices.Contains(c, x) && x.Farm != farm {
				t.Fatal("an easement of another farm")
			}
		}
	}
}

func checkOnce(t *testing.T, d api.District, l []api.Deed, c []api.Claim, b []api.Block) {
	t.Helper()
	n := 0
	for hour := range d.Hours {
		h, _ := register.At(d, l, hour, 1)
		for _, x := range h {
			right := d.Rights[x.Right]
			if hour < right.From || hour > right.To || (hour-right.From)%right.Every >= right.Length {
				continue
			}
			n++
			claimed := slices.Contains(c, api.Claim{Right: x.Right, Farm: x.Farm, Hour: hour, Litres: x.Litres, Rank: x.Rank})
			blocked := slices.ContainsFunc(b, func(y api.Block) bool { return y.Right == x.Right && y.Farm == x.Farm && y.Hour == hour })
			if claimed == blocked {
				t.Fatalf("the holding %v in the hour %d", x, hour)
			}
		}
	}
	if n != len(c)+len(b) {
		t.Fatalf("%d holdings", n)
	}
}

// P26.6: a private reach that becomes an easement of its owner blocks nobody any more.
func TestNoLongerPrivate(t *testing.T) {
	d := district()
	eased := d
	eased.Rights = slices.Clone(d.Rights)
	eased.Rights[2].Kind = api.EaseR
	before, e1 := Blocked(d, nil, 0, 23, 0)
	after, e2 := Blocked(eased, nil, 0, 23, 0)
	if e1 != api.OK || e2 != api.OK || len(before) == 0 || len(after) != 0 {
		t.Errorf("%v, %v", before, after)
	}
	two := eased
	two.Rights = append(slices.Clone(eased.Rights), api.Right{Kind: api.OwnR, Farm: 0, Reach: 2, To: 23})
	both := d
	both.Rights = append(slices.Clone(d.Rights), api.Right{Kind: api.OwnR, Farm: 0, Reach: 2, To: 23})
	wide, _ := Blocked(both, nil, 0, 23, 0)
	narrow, _ := Blocked(two, nil, 0, 23, 0)
	for _, b := range narrow {
		if !slices.ContainsFunc(wide, func(x api.Block) bool { return x.Right == b.Right && x.Farm == b.Farm && x.Hour == b.Hour }) {
			t.Errorf("%v is blocked now", b)
		}
	}
}
