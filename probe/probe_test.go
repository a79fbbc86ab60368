package probe

import (
	"math/rand"
	"reflect"
	"slices"
	"testing"

	"acequia/api"
	"acequia/suspects"
)

func probe(cost int, set ...int) api.Probe { return api.Probe{Cost: cost, Set: set} }

func leaf(rest ...int) api.Search { return api.Search{Rest: rest} }

func node(p int, a, b api.Search) api.Search { return api.Search{Probe: p, Kids: []api.Search{a, b}} }

// P50.1 and P50.2: hypotheses and measurements that are not valid.
func TestErrors(t *testing.T) {
	sets := make([][]int, 12)
	for i := range sets {
		sets[i] = []int{i}
	}
	for i, x := range []struct {
		l    [][]int
		p    []api.Probe
		want api.Errno
	}{
		{nil, nil, 0}, {sets, []api.Probe{probe(1<<20, 0, 11)}, 0}, {append(sets, []int{0, 1}), nil, api.ErrLimit}, {[][]int{{-1}}, make([]api.Probe, 13), api.ErrLimit}, {[][]int{{3, 3}}, nil, api.ErrProbe}, {[][]int{{2, 1}}, nil, api.ErrProbe}, {[][]int{{12}}, nil, api.ErrProbe}, {[][]int{{-1}}, nil, api.ErrProbe}, {[][]int{{1}, {1}}, nil, api.ErrProbe}, {[][]int{nil, {}}, nil, api.ErrProbe}, {[][]int{{}}, nil, 0},
		{nil, []api.Probe{{}}, api.ErrProbe}, {nil, []api.Probe{probe(0, 1)}, api.ErrProbe}, {nil, []api.Probe{probe(1<<20+1, 1)}, api.ErrProbe}, {nil, []api.Probe{probe(1)}, api.ErrProbe}, {nil, []api.Probe{probe(1, 1, 1)}, api.ErrProbe}, {nil, []api.Probe{probe(1, 12)}, api.ErrProbe},
	} {
		_, _, e1 := Best(x.l, x.p)
		_, _, e2 := Next(x.l, x.p)
		_, _, e3 := Worth(x.l, x.p, leaf())
		if e := Check(x.l, x.p); e != x.want || e1 != e || e2 != e || e3 != e {
			t.Errorf("case %d: %d, %d, %d, %d, want %d", i, e, e1, e2, e3, x.want)
		}
	}
	if _, _, e := Follow(nil, []api.Probe{{}}, leaf(5), nil); e != api.ErrProbe {
		t.Error("Follow")
	}
	if _, _, e := Follow(append(sets, []int{0, 1}), nil, leaf(), nil); e != api.ErrLimit {
		t.Error("Follow with 13 hypotheses")
	}
}

// P50.1 and P50.2: small searches.
func TestBest(t *testing.T) {
	l := [][]int{{0}, {1}, {2}, {0, 1}}
	p := []api.Probe{probe(5, 0), probe(2, 1), probe(1, 2, 3), probe(1, 5)}
	tree, worst, e := Best(l, p)
	best := node(0, node(2, leaf(1), leaf(2)), node(1, leaf(0), leaf(3)))
	want := node(1, node(2, leaf(0), leaf(2)), node(0, leaf(1), leaf(3))) // as cheap, but with a later measurement
	if e != api.OK || worst != 7 || !reflect.DeepEqual(tree, best) {
		t.Errorf("Best = %v, %d, %d", tree, worst, e)
	}
	if n, ok, e := Next(l, p); n != 0 || !ok || e != api.OK {
		t.Errorf("Next = %d, %v", n, ok)
	}
	for i, x := range []struct {
		t     api.Search
		worst int
		ok    bool
	}{
		{want, 7, true}, {node(0, node(1, leaf(2), leaf(1)), node(1, leaf(0), leaf(3))), 7, true}, {node(2, node(1, leaf(0), node(0, leaf(1), leaf(3))), leaf(2)), 8, true}, {leaf(0, 1, 2, 3), 0, false}, {node(3, leaf(0, 1, 2, 3), leaf()), 0, false}, {node(4, leaf(), leaf()), 0, false}, {node(-1, leaf(), leaf()), 0, false},
		{node(0, node(1, leaf(2), leaf(1)), leaf(0, 3)), 0, false}, {node(0, node(1, leaf(1), leaf(2)), node(1, leaf(0), leaf(3))), 0, false}, {api.Search{Probe: 1, Rest: []int{0}, Kids: want.Kids}, 0, false}, {api.Search{Probe: 1, Kids: want.Kids[:1]}, 0, false}, {api.Search{Probe: 1, Kids: append(slices.Clone(want.Kids), leaf())}, 0, false}, {node(1, node(2, api.Search{Probe: 1, Rest: []int{0}}, leaf(2)), want.Kids[1]), 0, false},
	} {
		if worst, ok, e := Worth(l, p, x.t); worst != x.worst || ok != x.ok || e != api.OK {
			t.Errorf("tree %d: %d, %v, %d", i, worst, ok, e)
		}
		if _, _, e := Follow(l, p, x.t, []int{0}); (e == api.OK) != x.ok {
			t.Errorf("tree %d: Follow returns %d", i, e)
		}
	}
	for i, x := range []struct {
		truth []int
		rest  []int
		cost  int
	}{{[]int{0}, []int{0}, 3}, {[]int{2}, []int{2}, 3}, {[]int{1}, []int{1}, 7}, {[]int{0, 1}, []int{3}, 7}, {nil, []int{0}, 3}, {[]int{0, 1, 2, 11}, []int{3}, 7}} {
		if rest, cost, e := Follow(l, p, want, x.truth); e != api.OK || !slices.Equal(rest, x.rest) || cost != x.cost {
			t.Errorf("truth %d: %v, %d, %d", i, rest, cost, e)
		}
	}
	for _, truth := range [][]int{{12}, {-1}, {1, 1}, {2, 1}} {
		if rest, cost, e := Follow(l, p, want, truth); e != api.ErrProbe || rest != nil || cost != 0 {
			t.Errorf("the truth %v", truth)
		}
	}
}

// P50.1 and P50.2: searches without choice.
func TestLeaves(t *testing.T) {
	if tree, worst, e := Best(nil, nil); e != api.OK || worst != 0 || !reflect.DeepEqual(tree, api.Search{}) {
		t.Errorf("nothing: %v", tree)
	}
	if tree, worst, _ := Best([][]int{{0}, {1}}, nil); worst != 0 || !reflect.DeepEqual(tree, leaf(0, 1)) {
		t.Errorf("no measurements: %v", tree)
	}
	if n, ok, e := Next([][]int{{0}}, []api.Probe{probe(1, 0)}); n != 0 || ok || e != api.OK {
		t.Error("one hypothesis")
	}
	if worst, ok, e := Worth(nil, nil, leaf(0)); worst != 0 || ok || e != api.OK {
		t.Error("a tree with a Rest")
	}
	if _, ok, _ := Worth(nil, nil, api.Search{}); !ok {
		t.Error("the zero tree")
	}
	deep := api.Search{}
	for range 50000 {
		deep = node(0, deep, leaf())
	}
	if _, ok, e := Worth([][]int{{0}, {1}}, []api.Probe{probe(1, 0)}, deep); ok || e != api.OK {
		t.Error("a deep tree")
	}
}

// costs returns the worst costs of all right trees for some hypotheses, at most so many of them.
func costs(x *planner, part int) (l []int) {
	none := true
	for i := range x.separating(part) {
		none = false
		nobody, somebody := x.parts(i, part)
		for _, a := range costs(x, nobody) {
			for _, b := range costs(x, somebody) {
				l = append(l, x.probes[i].Cost+max(a, b))
			}
		}
	}
	if none {
		return []int{0}
	}
	slices.Sort(l)
	return slices.Compact(l)
}

// P50.3 to P50.5: the cheapest, to the truth, and fewer hypotheses.
func TestLaws(t *testing.T) {
	r := rand.New(rand.NewSource(50))
	for range 300 {
		var l [][]int
		for _, n := range r.Perm(32)[:r.Intn(6)] {
			l = append(l, indices(n))
		}
		var p []api.Probe
		for range r.Intn(5) {
			p = append(p, probe(1+r.Intn(6), indices(1+r.Intn(31))...))
		}
		tree, worst, e := Best(l, p)
		x := plannerOf(l, p)
		if all := costs(x, x.all); e != api.OK || worst != all[0] {
			t.Fatalf("%v, %v: %d, not %d", l, p, worst, all[0])
		}
		if n, ok, _ := Worth(l, p, tree); !ok || n != worst {
			t.Fatalf("%v is worth %d", tree, n)
		}
		for i, h := range l {
			rest, cost, e := Follow(l, p, tree, h)
			if e != api.OK || !slices.Contains(rest, i) || cost > worst || len(slices.Collect(x.separating(bits(rest)))) > 0 {
				t.Fatalf("%v leads to %v", h, rest)
			}
			if _, n, _ := Best(slices.Delete(slices.Clone(l), i, i+1), p); n > worst {
				t.Fatal("a hypothesis is left out")
			}
		}
		for i := range p {
			cheaper := slices.Clone(p)
			cheaper[i].Cost = 1
			if _, n, _ := Best(l, cheaper); n > worst {
				t.Fatal("a cheaper measurement")
			}
		}
	}
}

// P50.5: minimal explanations are valid hypotheses.
func TestExplanations(t *testing.T) {
	exact := func(l ...int) (r []api.Range) {
		for _, n := range l {
			r = append(r, api.Range{Lo: n, Hi: n})
		}
		return r
	}
	d := api.District{Hours: 8, Reaches: []api.Reach{{Up: -1, Delay: 1, Seep: [2]api.Ratio{{D: 1}, {D: 1}}}}, Farms: []api.Farm{{Crop: -1}}}
	x := api.Evidence{
		Waves:    []api.Wave{{Heads: exact(10), Outlets: exact(4), Tails: exact(3)}},
		Suspects: []api.Suspect{{Kind: api.HeadQ, Most: 1}, {Kind: api.OutletQ, Most: 9}, {Kind: api.PumpQ, Most: 3}},
	}
	l, e := suspects.Minimal(d, x)
	if f := Check(l, []api.Probe{probe(3, 0), probe(1, 2)}); e != api.OK || f != api.OK || len(l) != 3 {
		t.Errorf("%v: %d, %d", l, e, f)
	}
	tree, worst, _ := Best(l, []api.Probe{probe(3, 0), probe(1, 2)})
	if rest, cost, e := Follow(l, []api.Probe{probe(3, 0), probe(1, 2)}, tree, []int{2}); e != api.OK || cost > worst || !slices.Equal(rest, []int{2}) {
		t.Errorf("%v, %d of %d", rest, cost, worst)
	}
}
