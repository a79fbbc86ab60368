package evidence

import (
	"math/rand"
	"reflect"
	"slices"
	"testing"

	"acequia/api"
	"acequia/balance"
	"acequia/losses"
)

// district has two reaches, one below the other, with a farm at each, and losses of 0 to 1 litre of a parcel.
func district() api.District {
	r := func(up, delay int) api.Reach {
		return api.Reach{Up: up, Delay: delay, Cap: 100, Bank: 500, Evap: api.Range{Hi: 1}, Seep: [2]api.Ratio{{D: 1}, {D: 1}}}
	}
	return api.District{Hours: 8, Tank: api.Tank{Cap: 400, Start: 400}, Reaches: []api.Reach{r(-1, 2), r(0, 1)}, Farms: []api.Farm{{Reach: 0, Crop: -1}, {Reach: 1, Crop: -1}}}
}

func exactly(l ...int) (r []api.Range) {
	for _, n := range l {
		r = append(r, api.Range{Lo: n, Hi: n})
	}
	return r
}

// wave has the numbers of the heads, the outlets and the tails of both reaches.
func wave(hour int, n ...int) api.Wave {
	return api.Wave{Hour: hour, Heads: exactly(n[:2]...), Outlets: exactly(n[2:4]...), Tails: exactly(n[4:]...)}
}

func suspect(kind, index, most int) api.Suspect {
	return api.Suspect{Kind: kind, Index: index, Most: most}
}

// P48.1: valid evidence.
func TestCheck(t *testing.T) {
	d := district()
	for i, x := range []struct {
		change func(x *api.Evidence)
		want   api.Errno
	}{
		{func(x *api.Evidence) {}, 0}, {func(x *api.Evidence) { *x = api.Evidence{} }, 0}, {func(x *api.Evidence) { x.Waves = make([]api.Wave, 25) }, api.ErrLimit}, {func(x *api.Evidence) { x.Waves, x.Suspects = make([]api.Wave, 1), make([]api.Suspect, 13) }, api.ErrLimit}, {func(x *api.Evidence) { x.Waves[1].Hour = 3 }, api.ErrEvidence}, {func(x *api.Evidence) { x.Waves[1].Hour = 8 }, api.ErrEvidence}, {func(x *api.Evidence) { x.Waves[0].Hour = -1 }, api.ErrEvidence},
		{func(x *api.Evidence) { x.Waves[0].Heads = exactly(1) }, api.ErrEvidence}, {func(x *api.Evidence) { x.Waves[0].Outlets = exactly(1, 2, 3) }, api.ErrEvidence}, {func(x *api.Evidence) { x.Waves[0].Tails = nil }, api.ErrEvidence}, {func(x *api.Evidence) { x.Waves[0].Heads[0].Lo = 2 }, api.ErrEvidence}, {func(x *api.Evidence) { x.Waves[0].Tails[1].Lo = -1 }, api.ErrEvidence}, {func(x *api.Evidence) { x.Waves[0].Outlets[1].Hi = 1<<30 + 1 }, api.ErrEvidence},
		{func(x *api.Evidence) { x.Suspects[0].Kind = 0 }, api.ErrEvidence}, {func(x *api.Evidence) { x.Suspects[1].Kind = 5 }, api.ErrEvidence}, {func(x *api.Evidence) { x.Suspects[0].Index = 2 }, api.ErrEvidence}, {func(x *api.Evidence) { x.Suspects[0].Index = -1 }, api.ErrEvidence}, {func(x *api.Evidence) { x.Suspects[1].Most = 0 }, api.ErrEvidence}, {func(x *api.Evidence) { x.Suspects[1].Most = 1<<30 + 1 }, api.ErrEvidence}, {func(x *api.Evidence) { x.Suspects[1] = x.Suspects[0] }, api.ErrEvidence}, {func(x *api.Evidence) { slices.Reverse(x.Suspects) }, api.ErrEvidence},
	} {
		y := api.Evidence{Waves: []api.Wave{wave(3, 1, 0, 1, 0, 0, 0), wave(7, 1, 0, 1, 0, 0, 0)}, Suspects: []api.Suspect{suspect(api.OutletQ, 1, 1), suspect(api.PumpQ, 0, 1<<30)}}
		x.change(&y)
		_, e1 := Explains(d, y, []int{-1})
		_, _, e2 := Find(d, y, []int{-1})
		_, e3 := Accepts(d, y, []int{-1}, nil)
		_, e4 := Table(d, y)
		want := x.want
		if want == api.OK {
			want = api.ErrEvidence
		}
		if e := Check(d, y); e != x.want || e1 != want || e2 != want || e3 != want || e4 != e {
			t.Errorf("change %d: %d, %d, %d, %d, %d", i, e, e1, e2, e3, e4)
		}
	}
	if Check(api.District{}, api.Evidence{}) != api.ErrDistrict {
		t.Error("the zero district")
	}
	x := api.Evidence{Suspects: []api.Suspect{suspect(api.HeadQ, 0, 1), suspect(api.PumpQ, 0, 1)}}
	for _, set := range [][]int{{2}, {0, 0}, {1, 0}} {
		if _, e := Explains(d, x, set); e != api.ErrEvidence {
			t.Errorf("the set %v", set)
		}
	}
}

// P48.2 and P48.3: who explains what is missing.
func TestExplains(t *testing.T) {
	d := district()
	all := []api.Suspect{suspect(api.HeadQ, 0, 10), suspect(api.HeadQ, 1, 10), suspect(api.OutletQ, 0, 10), suspect(api.TailQ, 1, 1), suspect(api.PumpQ, 0, 3), suspect(api.PumpQ, 1, 2)}
	for i, x := range []struct {
		l    []api.Wave
		want [][]int // the minimal sets
	}{
		{nil, [][]int{nil}},
		{[]api.Wave{wave(0, 10, 5, 3, 2, 1, 3)}, [][]int{nil}},
		{[]api.Wave{wave(0, 10, 0, 4, 0, 3, 0)}, [][]int{{0}, {2}, {4}, {1, 5}}},
		{[]api.Wave{wave(0, 10, 0, 2, 0, 3, 0)}, [][]int{{0}, {2}, {1, 4, 5}}},
		{[]api.Wave{wave(0, 10, 6, 4, 1, 0, 1)}, [][]int{{1, 4}, {1, 2}, {0, 1}}},
		{[]api.Wave{wave(0, 10, 0, 4, 0, 3, 0), wave(1, 10, 6, 4, 9, 0, 0)}, nil},
	} {
		y := api.Evidence{Waves: x.l, Suspects: all}
		table, e := Table(d, y)
		if e != api.OK {
			t.Fatalf("Table: %d", e)
		}
		for set, ok := range table {
			if ok != isPossible(d, y, set) {
				t.Errorf("evidence %d: the set %b explains: %v", i, set, ok)
			}
		}
		for _, set := range x.want {
			if !table[bits(set)] {
				t.Errorf("evidence %d: %v", i, set)
			}
		}
		if i < 2 != table[0] {
			t.Errorf("evidence %d: nobody explains: %v", i, table[0])
		}
	}
}

// isPossible tries all numbers that could be true.
func isPossible(d api.District, x api.Evidence, set int) bool {
	s := solverOf(d, x)
	for _, w := range x.Waves {
		if !tryWave(d, s, w, set) {
			return false
		}
	}
	return true
}

func tryWave(d api.District, s *solver, w api.Wave, set int) bool {
	heads := func(reach int) api.Range { return s.possible(set, api.HeadQ, reach, w.Heads[reach]) }
	// can reports whether of some heads can arrive what leaves, with so much into the child.
	can := func(reach, child int, heads api.Range) bool {
		out, tail := s.possible(set, api.OutletQ, reach, w.Outlets[reach]), s.possible(set, api.TailQ, reach, w.Tails[reach])
		hi := out.Hi + tail.Hi + child
		if k, ok := s.suspect(set, api.PumpQ, reach); ok {
			hi += s.x.Suspects[k].Most
		}
		return s.between(d, reach, out.Lo+tail.Lo+child, hi, heads)
	}
	for low := heads(1).Lo; low <= heads(1).Hi; low++ {
		one := api.Range{Lo: low, Hi: low}
		if can(1, 0, one) && can(0, low, heads(0)) {
			return true
		}
	}
	return false
}

// between reports whether of some head so many litres can arrive.
func (s *solver) between(d api.District, reach, lo, hi int, heads api.Range) bool {
	for v := heads.Lo; v <= heads.Hi; v++ {
		worst, _ := losses.Worst(d.Reaches[reach], v)
		best, _ := losses.Best(d.Reaches[reach], v)
		if max(worst, lo) <= min(best, hi) {
			return true
		}
	}
	return false
}

func random(r *rand.Rand) api.Evidence {
	x := api.Evidence{}
	for hour := range r.Intn(3) {
		w := wave(hour, r.Intn(9), r.Intn(7), r.Intn(6), r.Intn(5), r.Intn(3), r.Intn(3))
		for _, l := range [][]api.Range{w.Heads, w.Outlets, w.Tails} {
			for i := range l {
				l[i].Hi += r.Intn(2)
			}
		}
		x.Waves = append(x.Waves, w)
	}
	for kind := api.HeadQ; kind <= api.PumpQ; kind++ {
		for i := range 2 {
			if r.Intn(2) == 0 {
				x.Suspects = append(x.Suspects, suspect(kind, i, 1+r.Intn(5)))
			}
		}
	}
	return x
}

// P48.4 and P48.6: exact, and more suspects, and wider ranges.
func TestExact(t *testing.T) {
	r := rand.New(rand.NewSource(48))
	d := district()
	explained := 0
	for range 500 {
		x := random(r)
		table, _ := Table(d, x)
		for n, want := range table {
			var set []int
			for i := range x.Suspects {
				if n>>i&1 == 1 {
					set = append(set, i)
				}
			}
			ok, e := Explains(d, x, set)
			l, found, f := Find(d, x, set)
			accepted, g := Accepts(d, x, set, l)
			if e != api.OK || f != api.OK || g != api.OK || ok != want || found != ok || ok != isPossible(d, x, n) || accepted != (ok || len(x.Waves) == 0) {
				t.Fatalf("%v with %v: %v, %v, %v", x, set, ok, found, accepted)
			}
			if ok && len(x.Waves) > 0 {
				explained++
				checkChanges(t, d, x, set, l)
			}
			if all, _ := Explains(d, x, []int{}); all && !ok {
				t.Fatal("more suspects")
			}
		}
	}
	if explained < 1000 {
		t.Errorf("only %d sets explain", explained)
	}
}

// checkChanges changes single numbers of Truths that fit.
func checkChanges(t *testing.T, d api.District, x api.Evidence, set []int, l []api.Truth) {
	t.Helper()
	for _, change := range []func(y *api.Truth){
		func(y *api.Truth) { y.Arrived = slices.Clone(y.Arrived); y.Arrived[0]++ }, func(y *api.Truth) { y.Outlets = slices.Clone(y.Outlets); y.Outlets[1]++ }, func(y *api.Truth) { y.Tails = slices.Clone(y.Tails); y.Tails[1]-- }, func(y *api.Truth) { y.Heads = y.Heads[1:] }, func(y *api.Truth) { y.Taken = append(slices.Clone(y.Taken), 0) }, func(y *api.Truth) { y.Heads = slices.Clone(y.Heads); y.Heads[0] += 20 },
	} {
		m := slices.Clone(l)
		change(&m[0])
		if ok, e := Accepts(d, x, set, m); ok || e != api.OK {
			t.Fatalf("%v is accepted", m)
		}
	}
	if ok, _ := Accepts(d, x, set, l[1:]); ok {
		t.Fatal("a Truth is missing")
	}
}

// run is a right run with a parcel of 20 litres in the hour 1.
func run() api.Run {
	lists := func() [][]int { return [][]int{make([]int, 8), make([]int, 8)} }
	x := api.Run{Inflow: make([]int, 8), Spill: make([]int, 8), In: lists(), Evap: lists(), Seep: lists(), Tail: lists(), Taken: lists()}
	x.In[0][1], x.Evap[0][1] = 20, 1
	x.In[1][3], x.Taken[0][3], x.Tail[0][3] = 10, 6, 3
	x.Taken[1][4], x.Tail[1][4] = 8, 2
	return x
}

// P48.1 and P48.5: what really happened is explained by nobody; a pump explains what did not leave.
func TestOf(t *testing.T) {
	d := district()
	if e := balance.Check(d, run()); e != api.OK {
		t.Fatalf("the run: %d", e)
	}
	w, truth, e := Of(d, run(), 1, 0)
	want := api.Truth{Heads: []int{20, 10}, Outlets: []int{6, 8}, Tails: []int{3, 2}, Arrived: []int{19, 10}}
	if e != api.OK || !reflect.DeepEqual(truth, want) || !reflect.DeepEqual(w, wave(1, 20, 10, 6, 8, 3, 2)) {
		t.Errorf("Of = %v, %v, %d", w, truth, e)
	}
	wide, _, _ := Of(d, run(), 1, 4)
	if wide.Tails[0] != (api.Range{Lo: 0, Hi: 7}) || wide.Heads[0] != (api.Range{Lo: 16, Hi: 24}) {
		t.Errorf("wide ranges: %v", wide)
	}
	if wide, _, e := Of(d, run(), 1, 1<<30); e != api.OK || wide.Heads[0] != (api.Range{Hi: 1 << 30}) {
		t.Errorf("the widest ranges: %v", wide)
	}
	x := api.Evidence{Waves: []api.Wave{w}}
	if ok, e := Accepts(d, x, nil, []api.Truth{truth}); !ok || e != api.OK {
		t.Error("what really happened")
	}
	for hour := range 5 {
		w, _, _ := Of(d, run(), hour, 0)
		if ok, _ := Explains(d, api.Evidence{Waves: []api.Wave{w}}, nil); !ok {
			t.Errorf("the hour %d", hour)
		}
	}
	x.Waves[0].Tails[1] = api.Range{}
	x.Suspects = []api.Suspect{suspect(api.PumpQ, 1, 2)}
	without, _ := Explains(d, x, nil)
	if with, _ := Explains(d, x, []int{0}); !with || without {
		t.Error("a pump")
	}
	for i, y := range []struct {
		x          api.Run
		hour, wide int
		want       api.Errno
	}{{api.Run{}, -1, 0, api.ErrBalance}, {run(), -1, 0, api.ErrArg}, {run(), 5, 0, api.ErrArg}, {run(), 4, 0, 0}, {run(), 8, 0, api.ErrArg}, {run(), 1<<63 - 1, 0, api.ErrArg}, {run(), 0, -1, api.ErrArg}, {run(), 0, 1<<30 + 1, api.ErrArg}} {
		if w, truth, e := Of(d, y.x, y.hour, y.wide); e != y.want || e != api.OK && (w.Heads != nil || truth.Heads != nil || w.Hour != 0) {
			t.Errorf("Of %d: %d", i, e)
		}
	}
}

// P48.6: wider ranges are explained by whoever explains narrower ones.
func TestWider(t *testing.T) {
	r := rand.New(rand.NewSource(49))
	d := district()
	for range 300 {
		x := random(r)
		narrow, _ := Table(d, x)
		for i := range x.Waves {
			for _, l := range [][]api.Range{x.Waves[i].Heads, x.Waves[i].Outlets, x.Waves[i].Tails} {
				for k := range l {
					l[k] = api.Range{Lo: max(0, l[k].Lo-r.Intn(2)), Hi: l[k].Hi + r.Intn(2)}
				}
			}
		}
		wide, _ := Table(d, x)
		for set := range narrow {
			if narrow[set] && !wide[set] {
				t.Fatalf("%v: the set %b", x, set)
			}
		}
	}
}
