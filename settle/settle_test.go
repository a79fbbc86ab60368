package settle

import (
	"math/rand"
	"reflect"
	"slices"
	"testing"

	"acequia/api"
	"acequia/winners"
)

// market has three farms at a lossless reach, with 10 litres each, in one week.
func market(l ...api.Offer) api.Market {
	d := api.District{Hours: 1, Reaches: []api.Reach{{Up: -1, Delay: 1, Cap: 100, Bank: 100, Seep: [2]api.Ratio{{D: 1}, {D: 1}}}}, Farms: []api.Farm{{Crop: -1}, {Crop: -1}, {Crop: -1}}}
	m := api.Market{District: d, Awards: [][]int{{10, 10, 10}}, Room: 20}
	for i, o := range l {
		o.No = 3 * i
		m.Offers = append(m.Offers, o)
	}
	return m
}

func offer(farm, price, litres int) api.Offer {
	return api.Offer{Farm: farm, Price: price, Lots: []api.Lot{{Litres: litres}}}
}

// P47.1 and P47.2: payments, books and statements.
func TestSettle(t *testing.T) {
	m := market(offer(0, -10, -4), offer(1, 15, 4), offer(0, 7, 1), offer(2, 0, -1))
	pays, e := Pay(m, 3)
	if e != api.OK || !slices.Equal(pays, []int{-12, 12, 0, 0}) {
		t.Errorf("Pay = %v, %d", pays, e)
	}
	money, litres, e := Books(m, 3)
	if e != api.OK || !slices.Equal(money, []int{-12, 12, 0}) || !reflect.DeepEqual(litres, [][]int{{6, 14, 10}}) {
		t.Errorf("Books = %v, %v, %d", money, litres, e)
	}
	l, e := Statements(m, 3, 0)
	if want := []api.Statement{{Offer: 0, Pays: -12, Bid: -10, Won: true}, {Offer: 6, Bid: 7}}; e != api.OK || !reflect.DeepEqual(l, want) {
		t.Errorf("Statements = %v, %d", l, e)
	}
	if pays, e := Pay(m, 8); e != api.OK || !slices.Equal(pays, make([]int, 4)) {
		t.Errorf("a price of 0: %v, %d", pays, e)
	}
	money, litres, e = Books(m, 0)
	if e != api.OK || !slices.Equal(money, make([]int, 3)) || !reflect.DeepEqual(litres, m.Awards) {
		t.Errorf("the empty set: %v, %v", money, litres)
	}
	if l, e := Statements(market(), 0, 2); e != api.OK || len(l) != 0 {
		t.Error("a farm without offers")
	}
	if pays, e := Pay(market(), 0); e != api.OK || len(pays) != 0 {
		t.Error("no offers")
	}
}

// P47.1 and P47.2: errors.
func TestErrors(t *testing.T) {
	m := market(offer(0, -10, -4), offer(1, 15, 4))
	wrong := m
	wrong.Room = -1
	for i, x := range []struct {
		m    api.Market
		set  int
		want api.Errno
	}{{api.Market{}, 0, api.ErrDistrict}, {wrong, 9, api.ErrMarket}, {m, 4, api.ErrArg}, {m, -1, api.ErrArg}, {market(), 1, api.ErrArg}, {m, 1, api.ErrSettle}, {m, 2, api.ErrSettle}} {
		pays, e1 := Pay(x.m, x.set)
		money, litres, e2 := Books(x.m, x.set)
		l, e3 := Statements(x.m, x.set, -1)
		if e1 != x.want || e2 != x.want || e3 != x.want || pays != nil || money != nil || litres != nil || l != nil {
			t.Errorf("case %d: %d, %d, %d, want %d", i, e1, e2, e3, x.want)
		}
	}
	for _, farm := range []int{-1, 3} {
		if _, e := Statements(m, 3, farm); e != api.ErrArg {
			t.Errorf("the farm %d", farm)
		}
	}
}

// P47.3 to P47.6: balance, shares, nobody else, and the best set.
func TestLaws(t *testing.T) {
	r := rand.New(rand.NewSource(47))
	for range 300 {
		m := market()
		for i := range r.Intn(6) {
			o := offer(r.Intn(3), r.Intn(41)-20, 1+r.Intn(5))
			if o.Price < 0 {
				o.Lots[0].Litres *= -1
			}
			o.No = i
			m.Offers = append(m.Offers, o)
		}
		best, value, _ := winners.Best(m)
		pays, e := Pay(m, best)
		money, litres, _ := Books(m, best)
		if e != api.OK {
			t.Fatalf("Pay: %d", e)
		}
		weights := 0
		for i, o := range m.Offers {
			if best>>i&1 == 1 {
				weights += max(o.Price, -o.Price)
			}
		}
		total, inSet := 0, map[int]bool{}
		for i, o := range m.Offers {
			total += pays[i]
			won := best>>i&1 == 1
			inSet[o.Farm] = inSet[o.Farm] || won
			rebate := (o.Price - pays[i]) * weights
			exact := value * max(o.Price, -o.Price)
			if won && (pays[i] > o.Price || o.Price > 0 && pays[i] < 0 || max(rebate-exact, exact-rebate) >= max(1, weights)) || !won && pays[i] != 0 {
				t.Fatalf("%v pays %d", o, pays[i])
			}
		}
		if total != 0 {
			t.Fatalf("all payments are %d", total)
		}
		for farm := range 3 {
			l, _ := Statements(m, best, farm)
			sum := 0
			for _, s := range l {
				sum += s.Pays
			}
			if sum != money[farm] || !inSet[farm] && (sum != 0 || litres[0][farm] != 10) {
				t.Fatalf("the farm %d", farm)
			}
		}
		checkNegated(t, m, best, value)
	}
}

// checkNegated negates all prices.
func checkNegated(t *testing.T, m api.Market, set, value int) {
	t.Helper()
	m.Offers = slices.Clone(m.Offers)
	for i := range m.Offers {
		m.Offers[i].Price *= -1
	}
	if _, e := Pay(m, set); value > 0 && e != api.ErrSettle {
		t.Fatal("settled both ways")
	}
}
