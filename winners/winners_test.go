package winners

import (
	"math/rand"
	"reflect"
	"slices"
	"testing"

	"acequia/api"
	"acequia/division"
)

// district has the reaches 0, 1 and 2 (both below 0), which lose 2 litres of a parcel at most, with two farms at each of the latter.
func district() api.District {
	d := api.District{Hours: 1}
	for _, up := range []int{-1, 0, 0} {
		d.Reaches = append(d.Reaches, api.Reach{Up: up, Delay: 1, Cap: 40, Bank: 100, Evap: api.Range{Hi: 2}, Seep: [2]api.Ratio{{D: 1}, {D: 1}}})
	}
	for _, reach := range []int{1, 1, 2, 2} {
		d.Farms = append(d.Farms, api.Farm{Reach: reach, Crop: -1})
	}
	return d
}

// market has two weeks, in which each farm has 5 litres.
func market(l ...api.Offer) api.Market {
	m := api.Market{District: district(), Awards: [][]int{{5, 5, 5, 5}, {5, 5, 5, 5}}, Room: 3, Rain: 10}
	for i, o := range l {
		o.No = i
		m.Offers = append(m.Offers, o)
	}
	return m
}

func offer(farm, price int, lots ...int) api.Offer {
	o := api.Offer{Farm: farm, Price: price, Rain: api.Range{Hi: 100}}
	for i := 0; i < len(lots); i += 2 {
		o.Lots = append(o.Lots, api.Lot{Week: lots[i], Litres: lots[i+1]})
	}
	return o
}

// P45.1 to P45.3: markets that are not right, and sets that are none.
func TestErrors(t *testing.T) {
	good := market(offer(0, 1, 0, 1))
	for i, x := range []struct {
		change func(m *api.Market)
		want   api.Errno
	}{
		{func(m *api.Market) {}, 0}, {func(m *api.Market) { m.District = api.District{}; m.Awards = make([][]int, 9) }, api.ErrDistrict}, {func(m *api.Market) { m.Awards = make([][]int, 9) }, api.ErrLimit}, {func(m *api.Market) { m.Awards, m.Offers = nil, make([]api.Offer, 13) }, api.ErrLimit}, {func(m *api.Market) { m.Awards = nil }, api.ErrMarket}, {func(m *api.Market) { m.Awards[1] = m.Awards[1][1:] }, api.ErrMarket},
		{func(m *api.Market) { m.Awards[1] = []int{-1, 0, 0, 0} }, api.ErrMarket}, {func(m *api.Market) { m.Awards[1] = []int{1 << 30, 0, 0, 0} }, api.ErrMarket}, {func(m *api.Market) { m.Room = -1 }, api.ErrMarket}, {func(m *api.Market) { m.Room = 1<<40 + 1 }, api.ErrMarket}, {func(m *api.Market) { m.Rain = 10001 }, api.ErrMarket}, {func(m *api.Market) { m.Rain = -1 }, api.ErrMarket},
		{func(m *api.Market) { m.Offers = append(m.Offers, m.Offers[0]) }, api.ErrMarket}, {func(m *api.Market) { m.Offers[0].Lots = nil }, api.ErrMarket}, {func(m *api.Market) { m.Offers[0].Lots = make([]api.Lot, 9) }, api.ErrMarket}, {func(m *api.Market) { m.Offers[0].Farm = 4 }, api.ErrMarket}, {func(m *api.Market) { m.Offers[0].Lots = []api.Lot{{Week: 2, Litres: 1}} }, api.ErrMarket},
	} {
		m := market(offer(0, 1, 0, 1))
		x.change(&m)
		_, _, e1 := After(m, -1)
		_, _, e2 := Value(m, -1)
		_, _, e3 := Best(m)
		_, _, e4 := Prove(m, -1)
		_, e5 := Accepts(m, -1, make([]int, 20000))
		want := x.want
		if want == api.OK {
			want = api.ErrArg
		}
		if e := Check(m); e != x.want || e1 != want || e2 != want || e3 != e || e4 != want || e5 != want {
			t.Errorf("change %d: %d, %d, %d, %d, %d, %d", i, e, e1, e2, e3, e4, e5)
		}
	}
	if _, _, e := Value(good, 2); e != api.ErrArg {
		t.Error("a set of offers that do not exist")
	}
	if _, e := Accepts(good, 0, make([]int, 16385)); e != api.ErrLimit {
		t.Error("a long proof")
	}
}

// P45.1: which sets can be carried out.
func TestFeasible(t *testing.T) {
	for i, x := range []struct {
		m   api.Market
		set int
		ok  bool
	}{
		{market(), 0, true}, {market(offer(0, 5, 0, 1)), 1, false}, {market(offer(0, 5, 0, 1), offer(1, -4, 0, -1)), 3, true}, {market(offer(0, 5, 0, 1), offer(3, -4, 0, -1)), 3, true}, {market(offer(1, -4, 0, -1)), 1, true}, {market(offer(1, -4, 0, -4)), 1, false}, {market(offer(1, -4, 0, -6)), 1, false}, {market(offer(0, 5, 1, 2), offer(3, -4, 0, -2)), 3, true}, {market(offer(0, 5, 0, 2), offer(3, -4, 1, -2)), 3, false},
		{market(offer(0, 5, 0, 2, 1, -2), offer(3, -4, 0, -2, 1, 2)), 3, true}, {market(offer(0, 5, 0, 4), offer(3, -4, 0, -5)), 3, true}, {market(offer(3, 0, 0, -5), offer(2, 0, 0, -5)), 3, false},
	} {
		awards, ok, e := After(x.m, x.set)
		_, ok2, _ := Value(x.m, x.set)
		if ok != x.ok || ok2 != ok || e != api.OK || ok != (awards != nil) {
			t.Errorf("case %d: %v, %v, %d", i, awards, ok, e)
		}
	}
	m := market(offer(0, 5, 0, 2, 1, -2), offer(3, -4, 0, -2, 1, 2))
	if awards, _, _ := After(m, 3); !reflect.DeepEqual(awards, [][]int{{7, 5, 5, 3}, {3, 5, 5, 7}}) {
		t.Errorf("After = %v", awards)
	}
	if n, ok, e := Value(m, 3); n != 1 || !ok || e != api.OK {
		t.Errorf("Value = %d", n)
	}
	m.District.Reaches[1].Cap = 13
	if _, ok, _ := Value(m, 3); ok {
		t.Error("a head above its Cap")
	}
	m.District.Reaches[1].Cap, m.Rain = 40, 101
	if _, ok, _ := Value(m, 1); ok {
		t.Error("too much rain")
	}
}

func random(r *rand.Rand) api.Market {
	m := market()
	m.Room, m.District.Reaches[1].Cap, m.District.Reaches[2].Siphon = r.Intn(9), 12+r.Intn(8), r.Intn(2)*6
	for i := range r.Intn(6) {
		o := offer(r.Intn(4), r.Intn(21)-10)
		o.No = 2 * i
		for week := range 2 {
			if n := r.Intn(9) - 4; n != 0 && r.Intn(3) > 0 {
				o.Lots = append(o.Lots, api.Lot{Week: week, Litres: n})
			}
		}
		if len(o.Lots) == 0 {
			o.Lots = []api.Lot{{Week: 1, Litres: 3}}
		}
		o.Rain.Lo = r.Intn(2) * r.Intn(20)
		m.Offers = append(m.Offers, o)
	}
	return m
}

// isPossible decides by the definition whether a set can be carried out.
func isPossible(m api.Market, set int) bool {
	kept := 0
	for week, before := range m.Awards {
		after := slices.Clone(before)
		for i, o := range m.Offers {
			if set>>i&1 == 1 {
				if m.Rain < o.Rain.Lo || m.Rain > o.Rain.Hi {
					return false
				}
				for _, l := range o.Lots {
					if l.Week == week {
						after[o.Farm] += l.Litres
					}
				}
			}
		}
		x, _, _ := division.Needs(m.District, before)
		y, ok, e := division.Needs(m.District, after)
		if !ok || e != api.OK {
			return false
		}
		for i := range x {
			if y[i] > x[i] && y[i] > m.District.Reaches[i].Cap {
				return false
			}
		}
		if kept += x[0] - y[0]; kept < 0 || kept > m.Room {
			return false
		}
	}
	return true
}

// P45.2 to P45.6: the best set, its proof, and nothing else that is proved.
func TestBest(t *testing.T) {
	r := rand.New(rand.NewSource(45))
	for range 300 {
		m := random(r)
		best, most := 0, 0
		for set := range 1 << len(m.Offers) {
			n, ok, e := Value(m, set)
			if e != api.OK || ok != isPossible(m, set) {
				t.Fatalf("%v: the set %d", m, set)
			}
			if ok && n > most {
				best, most = set, n
			}
		}
		set, n, e := Best(m)
		if set != best || n != most || e != api.OK {
			t.Fatalf("%v: Best = %d, %d, want %d, %d", m, set, n, best, most)
		}
		for set := range 1 << len(m.Offers) {
			proof, ok, _ := Prove(m, set)
			value, possible, _ := Value(m, set)
			accepted, _ := Accepts(m, set, proof)
			if ok != (possible && value == most) || accepted != ok {
				t.Fatalf("%v: the proof of %d", m, set)
			}
			if !ok {
				continue
			}
			full := fullTree(len(m.Offers))
			if good, _ := Accepts(m, set, full); !good {
				t.Fatalf("%v: the full tree of %d", m, set)
			}
			for i := range proof {
				for _, kind := range []int{0, api.BranchP, api.CutP, api.LeafP, 4} {
					other := slices.Clone(proof)
					other[i] = kind
					checkOther(t, m, set, other, proof)
				}
			}
			checkOther(t, m, set, proof[1:], proof)
			checkOther(t, m, set, append(slices.Clone(proof), api.CutP), proof)
		}
		m.Room += 5
		if _, more, _ := Best(m); more < most {
			t.Fatal("a greater room")
		}
	}
}

// fullTree returns the branch tree that tries all sets.
func fullTree(offers int) []int {
	if offers == 0 {
		return []int{api.LeafP}
	}
	kid := fullTree(offers - 1)
	return slices.Concat([]int{api.BranchP}, kid, kid)
}

// checkOther examines numbers that differ from a proof: they are none, unless a cut and a leaf say the same.
func checkOther(t *testing.T, m api.Market, set int, other, proof []int) {
	t.Helper()
	ok, e := Accepts(m, set, other)
	if e != api.OK {
		t.Fatal(e)
	}
	same := slices.Equal(other, proof)
	for i := range min(len(other), len(proof)) {
		same = same || len(other) == len(proof) && other[i] == api.LeafP && proof[i] == api.CutP
		same = same || len(other) == len(proof) && other[i] == api.CutP && proof[i] == api.LeafP
	}
	if ok && !same {
		t.Fatalf("%v is accepted like %v", other, proof)
	}
}

// P45.3: the examples without offers.
func TestNoOffers(t *testing.T) {
	m := market()
	if set, n, e := Best(m); set != 0 || n != 0 || e != api.OK {
		t.Error("Best")
	}
	for _, x := range []struct {
		proof []int
		ok    bool
	}{{nil, false}, {[]int{api.LeafP}, true}, {[]int{api.CutP}, true}, {[]int{api.BranchP}, false}, {[]int{api.LeafP, api.LeafP}, false}, {[]int{0}, false}} {
		if ok, e := Accepts(m, 0, x.proof); ok != x.ok || e != api.OK {
			t.Errorf("the proof %v: %v", x.proof, ok)
		}
	}
}

// P45.5: until the end of each week, no more is let out than before, and at most Room less.
func TestLitres(t *testing.T) {
	r := rand.New(rand.NewSource(46))
	for range 300 {
		m := random(r)
		set, _, _ := Best(m)
		awards, ok, e := After(m, set)
		if !ok || e != api.OK {
			t.Fatal("the best set cannot be carried out")
		}
		kept := 0
		for week := range m.Awards {
			before, _, _ := division.Needs(m.District, m.Awards[week])
			after, _, _ := division.Needs(m.District, awards[week])
			if kept += before[0] - after[0]; kept < 0 || kept > m.Room {
				t.Fatalf("%d litres are kept after the week %d", kept, week)
			}
		}
		wet := m
		wet.Offers = slices.DeleteFunc(slices.Clone(m.Offers), func(o api.Offer) bool { return m.Rain < o.Rain.Lo || m.Rain > o.Rain.Hi })
		_, a, _ := Best(m)
		if _, b, _ := Best(wet); a != b {
			t.Fatal("offers for another rain")
		}
	}
}
