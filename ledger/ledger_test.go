package ledger

import (
	"math/rand"
	"reflect"
	"slices"
	"testing"

	"acequia/api"
	"acequia/balance"
	"acequia/disk"
	"acequia/journal"
	"acequia/merkle"
)

func post(no, hour, sort, from, to, n int) api.Posting {
	return api.Posting{No: no, Hour: hour, Sort: sort, From: from, To: to, N: n}
}

func of(l ...api.Posting) api.Ledger { return api.Ledger{Postings: l} }

// many returns a ledger in which the source gives as much as possible again and again.
func many(n int) (l api.Ledger) {
	for i := range n {
		l.Postings = append(l.Postings, post(i, 0, 1, 0, 1, 1<<40))
	}
	return l
}

// P56.1: valid ledgers.
func TestCheckAndPost(t *testing.T) {
	for i, x := range []struct {
		l    api.Ledger
		want api.Errno
	}{
		{of(), 0}, {of(post(0, 0, 1, 0, 4095, 5), post(1<<20, 4096, 1, 4095, 7, 5)), 0}, {of(post(0, 0, 1, 0, 1, 5), post(1, 0, 1, 1, 2, 6)), api.ErrLedger}, {of(post(0, 0, 1, 0, 1, 5), post(1, 0, 2, 1, 2, 5)), api.ErrLedger}, {of(post(0, 0, 2, 0, 1, 5), post(1, 0, 2, 1, 0, 5)), 0}, {of(post(0, 0, 1, 1, 2, 1)), api.ErrLedger}, {many(1024), 0}, {many(1025), api.ErrLedger}, {many(4097), api.ErrLimit},
		{of(post(1, 0, 1, 0, 1, 5), post(1, 0, 1, 0, 1, 5)), api.ErrLedger}, {of(post(1, 3, 1, 0, 1, 5), post(2, 2, 1, 0, 1, 5)), api.ErrLedger}, {of(post(-1, 0, 1, 0, 1, 5)), api.ErrLedger}, {of(post(1<<20+1, 0, 1, 0, 1, 5)), api.ErrLedger}, {of(post(0, -1, 1, 0, 1, 5)), api.ErrLedger}, {of(post(0, 4097, 1, 0, 1, 5)), api.ErrLedger}, {of(post(0, 0, 0, 0, 1, 5)), api.ErrLedger}, {of(post(0, 0, 3, 0, 1, 5)), api.ErrLedger}, {of(post(0, 0, 1, 0, 0, 5)), api.ErrLedger}, {of(post(0, 0, 1, 0, 4096, 5)), api.ErrLedger}, {of(post(0, 0, 1, -1, 1, 5)), api.ErrLedger}, {of(post(0, 0, 1, 0, 1, 0)), api.ErrLedger}, {of(post(0, 0, 1, 0, 1, 1<<40+1)), api.ErrLedger},
	} {
		d, _ := disk.New(1)
		_, e1 := Post(x.l, post(1<<20, 4096, 2, 0, 1, 1))
		_, e2 := Balance(x.l, 1, 0, 0)
		_, e3 := Balances(x.l, 1)
		_, e4 := Root(x.l)
		_, e5 := Store(d, x.l)
		if x.want == api.OK {
			e1, e5 = api.OK, api.OK
		}
		if e := Check(x.l); e != x.want || e1 != e || e2 != e || e3 != e || e4 != e || e5 != e {
			t.Errorf("ledger %d: %d, %d, %d, %d, %d, %d, want %d", i, e, e1, e2, e3, e4, e5, x.want)
		}
	}
	l := of(post(3, 3, 1, 0, 1, 5))
	a, e1 := Post(l, post(4, 3, 1, 1, 2, 5))
	b, e2 := Post(l, post(5, 3, 1, 1, 3, 5))
	if e1 != api.OK || e2 != api.OK || a.Postings[1].To != 2 || b.Postings[1].To != 3 || len(l.Postings) != 1 {
		t.Errorf("Post: %v, %v", a, b)
	}
	if x, e := Post(l, post(3, 3, 1, 0, 1, 5)); e != api.ErrLedger || x.Postings != nil {
		t.Error("a No that is there")
	}
	full := of()
	for i := range 4096 {
		full.Postings = append(full.Postings, post(i, 0, 1, 0, 1, 1))
	}
	if _, e := Post(full, post(9999, 0, 1, 0, 1, 1)); e != api.ErrLimit {
		t.Error("a posting too many")
	}
}

// P56.1: balances.
func TestBalances(t *testing.T) {
	l := of(post(0, 1, 1, 0, 1, 5), post(1, 2, 2, 0, 1, 9), post(2, 3, 1, 1, 7, 2), post(3, 3, 1, 1, 2, 3))
	for _, x := range []struct{ sort, account, hour, n int }{{1, 1, 0, 0}, {1, 1, 1, 5}, {1, 1, 3, 0}, {1, 7, 4096, 2}, {1, 0, 2, -5}, {2, 1, 2, 9}, {2, 7, 9, 0}} {
		if n, e := Balance(l, x.sort, x.account, x.hour); n != x.n || e != api.OK {
			t.Errorf("Balance(%v) = %d", x, n)
		}
	}
	if x, e := Balances(l, 1); e != api.OK || !slices.Equal(x, [][2]int{{0, -5}, {2, 3}, {7, 2}}) {
		t.Errorf("Balances = %v", x)
	}
	if x, e := Balances(of(), 2); e != api.OK || len(x) != 0 {
		t.Error("the empty ledger")
	}
	for _, x := range [][3]int{{0, 0, 0}, {3, 0, 0}, {1, -1, 0}, {1, 4096, 0}, {1, 0, -1}, {1, 0, 4097}} {
		if _, e := Balance(l, x[0], x[1], x[2]); e != api.ErrArg {
			t.Errorf("Balance(%v)", x)
		}
	}
	for _, sort := range []int{0, 3} {
		if _, e := Balances(l, sort); e != api.ErrArg {
			t.Errorf("Balances(%d)", sort)
		}
	}
	want := [][]byte{{3, 6, 1, 0, 1, 2, 1, 2, 1, 0, 1, 2, 1, 10}}
	if h, e := Root(of(l.Postings[0])); e != api.OK || h != merkle.Root(want) {
		t.Error("Root")
	}
	if h, e := Root(of()); e != api.OK || h != merkle.Root(nil) {
		t.Error("Root of the empty ledger")
	}
}

func fresh(sectors int) api.Disk {
	d, _ := disk.New(sectors)
	return d
}

// P56.2: what is stored is loaded.
func TestStoreAndLoad(t *testing.T) {
	l := of(post(0, 1, 1, 0, 1, 5), post(1, 2, 2, 0, 1, 9), post(2, 3, 1, 1, 7, 2))
	d, e := Store(fresh(3), of(l.Postings[0]))
	if x, f := Load(d); e != api.OK || f != api.OK || !reflect.DeepEqual(x, of(l.Postings[0])) {
		t.Fatalf("Load = %v, %d, %d", x, e, f)
	}
	d, e = Store(d, l)
	if x, f := Load(d); e != api.OK || f != api.OK || !reflect.DeepEqual(x, l) {
		t.Errorf("Load = %v, %d, %d", x, e, f)
	}
	if same, e := Store(d, l); e != api.OK || !reflect.DeepEqual(same, d) {
		t.Error("nothing to store")
	}
	if x, e := Load(fresh(1)); e != api.OK || len(x.Postings) != 0 {
		t.Error("a new disk")
	}
	stopped, pending := d, d
	stopped.Stopped = true
	pending, _ = disk.Write(d, 0, nil)
	for i, x := range []struct {
		d    api.Disk
		l    api.Ledger
		want api.Errno
	}{{api.Disk{}, l, api.ErrDisk}, {stopped, l, api.ErrDisk}, {pending, l, api.ErrArg}, {d, of(l.Postings[0]), api.ErrLedger}, {d, of(post(0, 1, 1, 0, 1, 6)), api.ErrLedger}, {d, of(append(slices.Clone(l.Postings), post(3, 3, 1, 0, 1, 1))...), api.ErrLimit}, {api.Disk{}, of(post(0, 0, 0, 0, 0, 0)), api.ErrLedger}} {
		if y, e := Store(x.d, x.l); e != x.want || y.Sectors != nil {
			t.Errorf("Store %d: %d, want %d", i, e, x.want)
		}
		if _, e := Load(x.d); i < 3 && e != x.want {
			t.Errorf("Load %d: %d, want %d", i, e, x.want)
		}
	}
}

// P56.2: of other records the longest beginning is loaded that is a ledger.
func TestOtherRecords(t *testing.T) {
	first := post(0, 1, 1, 0, 1, 5)
	for i, x := range []struct {
		records [][]byte
		want    int
	}{{[][]byte{text(first), text(post(1, 1, 1, 2, 1, 1)), text(post(2, 1, 1, 0, 1, 1))}, 1}, {[][]byte{text(first), {3, 0}, text(post(1, 1, 1, 0, 1, 1))}, 1}, {[][]byte{nil, text(first)}, 0}, {[][]byte{text(first), text(post(1, 1, 1, 0, 1, 1)), append(text(post(2, 1, 1, 0, 1, 1)), 0)}, 2}} {
		d := fresh(4)
		j, _ := journal.Open(d)
		for _, b := range x.records {
			j, _ = journal.Append(j, b)
		}
		_, d, _ = journal.Sync(j, d)
		if l, e := Load(d); e != api.OK || len(l.Postings) != x.want {
			t.Errorf("case %d: %v, %d", i, l, e)
		}
	}
}

// P56.6: torn writes leave a beginning, with all that was there before.
func TestTornWrites(t *testing.T) {
	var l api.Ledger
	for i := range 6 {
		l.Postings = append(l.Postings, post(i, i, 1, 0, 1, 1+i))
	}
	for first := range 6 {
		for left := range 7 {
			d, _ := Store(fresh(8), of(l.Postings[:first]...))
			d, _ = disk.Stop(d, left)
			x, e := Store(d, l)
			if e == api.OK {
				continue
			}
			if e != api.ErrDisk || !x.Stopped {
				t.Fatalf("Store: %d", e)
			}
			y, e := Load(disk.Restart(x))
			if n := len(y.Postings); e != api.OK || n < first || !reflect.DeepEqual(y, of(l.Postings[:n]...)) && n > 0 {
				t.Fatalf("after a crash: %v", y)
			}
		}
	}
}

// run returns a district with a farm, and a right run of it.
func run() (api.District, api.Run) {
	d := api.District{Hours: 4, Tank: api.Tank{Cap: 400, Start: 50}, Reaches: []api.Reach{{Up: -1, Delay: 1, Cap: 100, Bank: 500, Evap: api.Range{Hi: 1}, Seep: [2]api.Ratio{{D: 1}, {N: 1, D: 2}}}, {Up: 0, Delay: 1, Cap: 100, Bank: 500, Seep: [2]api.Ratio{{D: 1}, {D: 1}}}}, Farms: []api.Farm{{Crop: -1}, {Reach: 1, Crop: -1}}}
	lists := func() [][]int { return [][]int{make([]int, 4), make([]int, 4)} }
	x := api.Run{Inflow: []int{7, 0, 0, 1}, Spill: []int{0, 3, 0, 0}, In: lists(), Evap: lists(), Seep: lists(), Tail: lists(), Taken: lists()}
	x.In[0][1], x.Evap[0][1], x.Seep[0][1] = 20, 1, 2
	x.In[1][2], x.Taken[0][2], x.Tail[0][2] = 10, 6, 1
	x.Taken[1][3] = 10
	return d, x
}

// P56.3 and P56.5: the ledger of a run.
func TestOf(t *testing.T) {
	d, x := run()
	l, e := Of(d, x)
	want := of(post(0, 0, 1, 0, 1, 50), post(1, 0, 1, 0, 1, 7), post(2, 1, 1, 1, 2, 3), post(3, 1, 1, 1, 8, 20), post(4, 2, 1, 8, 9, 1), post(5, 2, 1, 8, 10, 2), post(6, 2, 1, 8, 13, 10), post(7, 2, 1, 8, 1024, 6), post(8, 2, 1, 8, 11, 1), post(9, 3, 1, 0, 1, 1), post(10, 3, 1, 13, 1025, 10))
	if e != api.OK || !reflect.DeepEqual(l, want) || Check(l) != api.OK {
		t.Errorf("Of = %v, %d", l, e)
	}
	for hour := range d.Hours {
		accounts, _ := balance.Accounts(d, x, hour+1)
		sum := 0
		for _, a := range accounts {
			n, e := Balance(l, api.LitresS, number([2]int{a.Kind, a.Index}), hour)
			if n != a.Litres || e != api.OK {
				t.Errorf("%v at %d: %d", a, hour, n)
			}
			sum += n
		}
		if n, _ := Balance(l, api.LitresS, 0, hour); n != -sum {
			t.Errorf("the source at %d: %d", hour, n)
		}
	}
	if _, e := Of(api.District{}, x); e != api.ErrDistrict {
		t.Error("the zero district")
	}
	if _, e := Of(d, api.Run{}); e != api.ErrBalance {
		t.Error("no run")
	}
	d.Tank.Start, d.Tank.Cap = 0, 1<<40
	none := [][]int{make([]int, 4), make([]int, 4)}
	still := api.Run{Inflow: none[0], Spill: none[0], In: none, Evap: none, Seep: none, Tail: none, Taken: none}
	if l, e := Of(d, still); e != api.OK || len(l.Postings) != 0 {
		t.Errorf("nothing happens: %v, %d", l, e)
	}
}

// P56.3: a run with too many moves.
func TestManyMoves(t *testing.T) {
	d := api.District{Hours: 1000, Tank: api.Tank{Cap: 1 << 30, Start: 1 << 20}, Reaches: []api.Reach{{Up: -1, Delay: 1, Cap: 100, Bank: 500, Seep: [2]api.Ratio{{D: 1}, {D: 1}}}}, Farms: []api.Farm{{Crop: -1}, {Crop: -1}, {Crop: -1}, {Crop: -1}}}
	lists := func(n int) (l [][]int) {
		for range n {
			l = append(l, make([]int, d.Hours))
		}
		return l
	}
	x := api.Run{Inflow: make([]int, d.Hours), Spill: make([]int, d.Hours), In: lists(1), Evap: lists(1), Seep: lists(1), Tail: lists(1), Taken: lists(4)}
	for hour := range d.Hours {
		x.In[0][hour] = 4
		for i := range 4 {
			if hour > 0 {
				x.Taken[i][hour] = 1
			}
		}
	}
	if l, e := Of(d, x); e != api.ErrLimit || l.Postings != nil {
		t.Errorf("%d postings: %d", len(l.Postings), e)
	}
}

// P56.4 and P56.7: double entry, and single postings.
func TestLaws(t *testing.T) {
	r := rand.New(rand.NewSource(56))
	for range 200 {
		var l api.Ledger
		for no := range 30 {
			from := r.Intn(5)
			p := post(no, no, 1+r.Intn(2), from, (from+1+r.Intn(4))%5, 1+r.Intn(9))
			x, e := Post(l, p)
			if e != api.OK {
				continue
			}
			before, _ := Balances(l, p.Sort)
			after, _ := Balances(x, p.Sort)
			sum, change := 0, map[int]int{p.From: p.N, p.To: -p.N}
			for _, b := range after {
				sum += b[1]
				change[b[0]] += b[1]
				if b[0] != 0 && b[1] < 0 {
					t.Fatal("a negative balance")
				}
			}
			for _, b := range before {
				change[b[0]] -= b[1]
			}
			for account, n := range change {
				if n != 0 || sum != 0 {
					t.Fatalf("%v changes the account %d", p, account)
				}
			}
			l = x
		}
	}
}
