package refuse

import (
	"math/rand"
	"reflect"
	"slices"
	"testing"

	"acequia/api"
	"acequia/claims"
	"acequia/timetable"
)

func take(farm, litres, from, to int) api.Right {
	return api.Right{Kind: api.TakeR, Farm: farm, Litres: litres, From: from, To: to, Every: 1, Length: 1}
}

// district has the reaches 0, 1 and 2 (both below 0), and 3 below 1, which lose 2 litres of a parcel at most, with a farm at each.
func district(rights ...api.Right) api.District {
	d := api.District{Hours: 12, Tank: api.Tank{Cap: 1000, Start: 500}, Rights: rights}
	for i, up := range []int{-1, 0, 0, 1} {
		d.Reaches = append(d.Reaches, api.Reach{Up: up, Delay: 1 + i%2, Cap: 100, Bank: 150, Evap: api.Range{Hi: 2}, Seep: [2]api.Ratio{{D: 1}, {D: 1}}})
		d.Farms = append(d.Farms, api.Farm{Reach: i, Crop: -1})
	}
	return d
}

func parcel(reach, hour, litres, wanted int) api.Parcel {
	return api.Parcel{Reach: reach, Hour: hour, Litres: litres, Wanted: wanted}
}

type example struct {
	d    api.District
	want api.Refusal
}

func examples() []example {
	lossless := district(take(0, 6, 5, 5), take(0, 6, 5, 5))
	lossless.Reaches = lossless.Reaches[:1]
	lossless.Farms = lossless.Farms[:1]
	lossless.Reaches[0].Evap, lossless.Reaches[0].Cap = api.Range{}, 10
	bank := district(take(3, 5, 7, 8), take(0, 1, 9, 9))
	bank.Reaches[3].Bank = 13
	tank := district(take(3, 5, 7, 7), take(2, 1, 6, 6), take(0, 9, 9, 9))
	tank.Tank.Start = 17
	gate := district(take(1, 1, 7, 7), take(3, 5, 9, 9), take(1, 4, 7, 7))
	gate.Reaches[1].Cap = 12
	return []example{
		{lossless, api.Refusal{Rights: []int{0, 1}, Kind: api.GateF, Hour: 4, Parcels: []api.Parcel{parcel(0, 4, 12, 12)}}},
		{bank, api.Refusal{Rights: []int{0}, Kind: api.BankF, Reach: 3, Hour: 6, Parcels: []api.Parcel{parcel(3, 5, 7, 5), parcel(3, 6, 7, 5)}}},
		{tank, api.Refusal{Rights: []int{0, 2}, Kind: api.TankF, Parcels: []api.Parcel{parcel(3, 5, 7, 5), parcel(1, 3, 9, 7), parcel(0, 2, 11, 9), parcel(0, 8, 11, 9)}}},
		{gate, api.Refusal{Rights: []int{1, 2}, Kind: api.GateF, Reach: 1, Hour: 5, Parcels: []api.Parcel{parcel(3, 7, 7, 5), parcel(1, 5, 13, 11)}}},
		{district(take(0, 5, 4, 4), take(3, 5, 4, 4)), api.Refusal{Rights: []int{1}, Kind: api.LateF, Hour: 0, Parcels: []api.Parcel{parcel(3, 2, 7, 5), parcel(1, 0, 9, 7)}}},
		{district(take(2, 1<<30-3, 9, 9), take(2, 3, 9, 9)), api.Refusal{Rights: []int{0}, Kind: api.LateF, Hour: 8, Parcels: []api.Parcel{parcel(2, 8, 1<<30-1, 1<<30-3)}}},
	}
}

// P29.1: refusals of each kind.
func TestWhy(t *testing.T) {
	for i, x := range examples() {
		r, ok, e := Why(x.d, nil, 0, 11, 0)
		if e != api.OK || !ok || !reflect.DeepEqual(r, x.want) {
			t.Errorf("example %d: %v, %v, %d", i, r, ok, e)
		}
	}
	if r, ok, e := Why(district(), nil, 0, 0, 0); ok || e != api.OK || !reflect.DeepEqual(r, api.Refusal{}) {
		t.Error("no rights")
	}
	if r, ok, e := Why(district(take(0, 5, 4, 4)), nil, 0, 11, 0); ok || e != api.OK || r.Kind != 0 {
		t.Error("a right that is met")
	}
}

// P29.1 and P29.2: errors of both functions.
func TestErrors(t *testing.T) {
	d, wide := district(take(0, 5, 4, 4)), district()
	wide.Hours = 257
	many := district()
	for range 11 {
		many.Rights = append(many.Rights, take(0, 1, 4, 4))
	}
	for i, x := range []struct {
		d        api.District
		l        []api.Deed
		from, to int
		want     api.Errno
	}{
		{api.District{}, nil, 0, 0, api.ErrDistrict}, {d, make([]api.Deed, 1), 0, 0, api.ErrDeed}, {d, nil, 3, 2, api.ErrArg}, {d, nil, 0, 12, api.ErrArg}, {wide, nil, 0, 0, api.ErrLimit}, {district(take(0, 1<<30, 4, 4), take(0, 1, 4, 4)), nil, 0, 11, api.ErrOrders}, {many, nil, 0, 11, api.ErrLimit}, {many, nil, 5, 11, api.OK},
	} {
		r, ok, e := Why(x.d, x.l, x.from, x.to, 0)
		holds, f := Holds(x.d, x.l, x.from, x.to, 0, api.Refusal{})
		if e != x.want || f != x.want || ok || holds || r.Kind != 0 {
			t.Errorf("case %d: %d, %d, want %d", i, e, f, x.want)
		}
	}
	for _, rights := range [][]int{{1}, {-1}, {0, 0}, {0, 1}} {
		if _, e := Holds(d, nil, 0, 11, 0, api.Refusal{Rights: rights}); e != api.ErrRefuse {
			t.Errorf("the rights %v: %d", rights, e)
		}
	}
}

// P29.2: refusals that hold, and changes after which they do not.
func TestHolds(t *testing.T) {
	for i, x := range examples() {
		if ok, e := Holds(x.d, nil, 0, 11, 0, x.want); !ok || e != api.OK {
			t.Errorf("example %d: %v, %d", i, ok, e)
		}
		for k := range x.want.Parcels {
			for n, change := range []func(p *api.Parcel){
				func(p *api.Parcel) { p.Wanted++ }, func(p *api.Parcel) { p.Litres++ }, func(p *api.Parcel) { p.Litres = 0 }, func(p *api.Parcel) { p.Litres = 1<<30 + 1 }, func(p *api.Parcel) { p.Hour++ }, func(p *api.Parcel) { p.Hour = -1 }, func(p *api.Parcel) { p.Reach = 4 }, func(p *api.Parcel) { p.Reach = -1 },
			} {
				r := x.want
				r.Parcels = slices.Clone(r.Parcels)
				change(&r.Parcels[k])
				if ok, e := Holds(x.d, nil, 0, 11, 0, r); ok || e != api.OK {
					t.Errorf("example %d, parcel %d, change %d: %v, %d", i, k, n, ok, e)
				}
			}
			r := x.want
			r.Parcels = append(slices.Clone(r.Parcels), r.Parcels[k])
			if ok, _ := Holds(x.d, nil, 0, 11, 0, r); ok {
				t.Errorf("example %d: the parcel %d twice", i, k)
			}
		}
		for n, change := range []func(r *api.Refusal){
			func(r *api.Refusal) { r.Kind = 0 }, func(r *api.Refusal) { r.Kind = 5 }, func(r *api.Refusal) { r.Reach = -1 }, func(r *api.Refusal) { r.Reach = 4 }, func(r *api.Refusal) { r.Hour = -1 }, func(r *api.Refusal) { r.Hour = 12 }, func(r *api.Refusal) { r.Parcels = nil; r.Rights = nil },
		} {
			r := x.want
			change(&r)
			if ok, e := Holds(x.d, nil, 0, 11, 0, r); ok || e != api.OK {
				t.Errorf("example %d, change %d: %v, %d", i, n, ok, e)
			}
		}
	}
}

// P29.2: a parcel may be the Siphon, whatever arrives of less; less than what is enough also proves.
func TestSiphonAndLess(t *testing.T) {
	d := district(take(0, 5, 4, 4))
	d.Reaches[0].Cap, d.Reaches[0].Siphon = 20, 20
	d.Tank.Start = 19
	r := api.Refusal{Rights: []int{0}, Kind: api.TankF, Parcels: []api.Parcel{parcel(0, 3, 20, 5)}}
	if ok, e := Holds(d, nil, 0, 11, 0, r); !ok || e != api.OK {
		t.Error("a siphon")
	}
	d.Tank.Start, d.Reaches[0].Siphon = 5, 0
	r.Parcels[0].Litres = 6
	if ok, e := Holds(d, nil, 0, 11, 0, r); !ok || e != api.OK {
		t.Error("less than is needed")
	}
}

func random(r *rand.Rand) api.District {
	d := district()
	d.Tank.Start = 20 + r.Intn(200)
	for i := range d.Reaches {
		d.Reaches[i].Siphon = r.Intn(8)
		d.Reaches[i].Cap, d.Reaches[i].Bank = 8+r.Intn(40), 8+r.Intn(60)
		d.Reaches[i].Seep[1] = []api.Ratio{{D: 1}, {N: 1, D: 10}, {N: 1, D: 2}}[r.Intn(3)]
	}
	for range 1 + r.Intn(6) {
		from := 3 + r.Intn(8)
		d.Rights = append(d.Rights, take(r.Intn(4), 1+r.Intn(12), from, min(11, from+r.Intn(3))))
	}
	return d
}

// P29.3 to P29.6: either a timetable or a refusal that holds, a smallest one, which further rights and lesser limits leave standing.
func TestLaws(t *testing.T) {
	r := rand.New(rand.NewSource(29))
	refused := 0
	for range 300 {
		d := random(r)
		c, _ := claims.Of(d, nil, 0, 11, 0)
		_, served, _ := timetable.Make(d, c)
		x, ok, e := Why(d, nil, 0, 11, 0)
		if e != api.OK || ok == served {
			t.Fatalf("served %v, refused %v, %d", served, ok, e)
		}
		if !ok {
			continue
		}
		refused++
		least := len(x.Rights)
		for s := range 1 << len(d.Rights) {
			var set []int
			for i := range d.Rights {
				if s>>i&1 == 1 {
					set = append(set, i)
				}
			}
			if contradict(d, c, set) && (len(set) < least || len(set) == least && slices.Compare(set, x.Rights) < 0) {
				t.Fatalf("%v is less than %v", set, x.Rights)
			}
		}
		lesser := d
		lesser.Reaches = slices.Clone(d.Reaches)
		lesser.Tank.Start -= r.Intn(5)
		for i := range lesser.Reaches {
			lesser.Reaches[i].Cap = max(lesser.Reaches[i].Siphon, lesser.Reaches[i].Cap-r.Intn(5))
			lesser.Reaches[i].Bank = max(lesser.Reaches[i].Siphon, lesser.Reaches[i].Bank-r.Intn(5))
		}
		more := d
		more.Rights = append(slices.Clone(d.Rights), take(r.Intn(4), 9, 5, 6))
		for i, y := range []api.District{d, lesser, more} {
			if ok, e := Holds(y, nil, 0, 11, 0, x); !ok || e != api.OK {
				t.Fatalf("district %d: %v does not hold, %d", i, x, e)
			}
		}
	}
	if refused < 50 {
		t.Errorf("only %d refusals", refused)
	}
}
