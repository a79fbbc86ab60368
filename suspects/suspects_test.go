package suspects

import (
	"math/rand"
	"reflect"
	"slices"
	"testing"

	"acequia/api"
	"acequia/evidence"
	"acequia/hitting"
)

// district has two lossless reaches, one below the other, with a farm at each.
func district() api.District {
	r := func(up int) api.Reach {
		return api.Reach{Up: up, Delay: 1, Cap: 100, Bank: 100, Seep: [2]api.Ratio{{D: 1}, {D: 1}}}
	}
	return api.District{Hours: 8, Reaches: []api.Reach{r(-1), r(0)}, Farms: []api.Farm{{Reach: 0, Crop: -1}, {Reach: 1, Crop: -1}}}
}

func exactly(l ...int) (r []api.Range) {
	for _, n := range l {
		r = append(r, api.Range{Lo: n, Hi: n})
	}
	return r
}

func wave(hour int, n ...int) api.Wave {
	return api.Wave{Hour: hour, Heads: exactly(n[:2]...), Outlets: exactly(n[2:4]...), Tails: exactly(n[4:]...)}
}

func suspect(kind, index, most int) api.Suspect {
	return api.Suspect{Kind: kind, Index: index, Most: most}
}

// missing has suspects of whom the meter of the head, the first pump, or the meter of the second head with the second pump explain that 3 litres are missing.
func missing() api.Evidence {
	return api.Evidence{
		Waves:    []api.Wave{wave(0, 10, 0, 4, 0, 3, 0)},
		Suspects: []api.Suspect{suspect(api.HeadQ, 0, 5), suspect(api.HeadQ, 1, 5), suspect(api.TailQ, 1, 2), suspect(api.PumpQ, 0, 3), suspect(api.PumpQ, 1, 9)},
	}
}

// P49.1 and P49.2: all minimal sets, and who is in them.
func TestMissing(t *testing.T) {
	d, x := district(), missing()
	l, e := Minimal(d, x)
	if want := [][]int{{0}, {1, 4}, {3}}; e != api.OK || !reflect.DeepEqual(l, want) {
		t.Errorf("Minimal = %v, %d", l, e)
	}
	if l, e := Smallest(d, x); e != api.OK || !reflect.DeepEqual(l, [][]int{{0}, {3}}) {
		t.Errorf("Smallest = %v, %d", l, e)
	}
	if l, e := Named(d, x); e != api.OK || !slices.Equal(l, []int{0, 1, 3, 4}) {
		t.Errorf("Named = %v, %d", l, e)
	}
	if l, e := Needed(d, x); e != api.OK || len(l) != 0 {
		t.Errorf("Needed = %v, %d", l, e)
	}
	for s, want := range [][]int{{0}, {1, 4}, nil, {3}, {1, 4}} {
		if set, ok, e := Blame(d, x, s); e != api.OK || ok != (want != nil) || !slices.Equal(set, want) {
			t.Errorf("Blame(%d) = %v, %v, %d", s, set, ok, e)
		}
	}
	x.Suspects = x.Suspects[1:3]
	x.Suspects[1] = suspect(api.PumpQ, 1, 4)
	if l, _ := Needed(d, x); !slices.Equal(l, []int{0, 1}) {
		t.Errorf("Needed = %v", l)
	}
}

// P49.1 and P49.2: nobody, nothing, and errors.
func TestEdges(t *testing.T) {
	d := district()
	if l, e := Minimal(d, api.Evidence{}); e != api.OK || len(l) != 1 || len(l[0]) != 0 {
		t.Errorf("no waves: %v", l)
	}
	if l, e := Smallest(d, api.Evidence{}); e != api.OK || len(l) != 1 || len(l[0]) != 0 {
		t.Errorf("no waves: %v", l)
	}
	nothing := missing()
	nothing.Suspects = nothing.Suspects[:0]
	for i, x := range []api.Evidence{{}, nothing} {
		named, e1 := Named(d, x)
		needed, e2 := Needed(d, x)
		if e1 != api.OK || e2 != api.OK || len(named) != 0 || len(needed) != 0 {
			t.Errorf("case %d: %v, %v", i, named, needed)
		}
	}
	if l, e := Minimal(d, nothing); e != api.OK || len(l) != 0 {
		t.Errorf("nothing explains: %v", l)
	}
	if l, e := Smallest(d, nothing); e != api.OK || len(l) != 0 {
		t.Errorf("nothing explains: %v", l)
	}
	bad := missing()
	bad.Waves[0].Hour = -1
	for i, x := range []struct {
		d    api.District
		x    api.Evidence
		want api.Errno
	}{{api.District{}, bad, api.ErrDistrict}, {d, bad, api.ErrEvidence}, {d, api.Evidence{Suspects: make([]api.Suspect, 13)}, api.ErrLimit}, {d, missing(), api.OK}} {
		_, e1 := Minimal(x.d, x.x)
		_, e2 := Smallest(x.d, x.x)
		_, e3 := Named(x.d, x.x)
		_, e4 := Needed(x.d, x.x)
		_, _, e5 := Blame(x.d, x.x, 5)
		_, _, e6 := Blame(x.d, x.x, -1)
		if x.want == api.OK && e5 == api.ErrArg && e6 == api.ErrArg {
			e5, e6 = api.OK, api.OK
		}
		for _, e := range []api.Errno{e1, e2, e3, e4, e5, e6} {
			if e != x.want {
				t.Errorf("case %d: %d, want %d", i, e, x.want)
			}
		}
	}
}

// P49.3 to P49.6: cores, who took it, and who did not.
func TestLaws(t *testing.T) {
	r := rand.New(rand.NewSource(49))
	d := district()
	many := 0
	for range 300 {
		x := api.Evidence{}
		for hour := range 1 + r.Intn(2) {
			x.Waves = append(x.Waves, wave(hour, 5+r.Intn(5), r.Intn(6), r.Intn(6), r.Intn(5), r.Intn(3), r.Intn(3)))
		}
		for kind := api.HeadQ; kind <= api.PumpQ; kind++ {
			for i := range 2 {
				if r.Intn(3) > 0 {
					x.Suspects = append(x.Suspects, suspect(kind, i, 1+r.Intn(8)))
				}
			}
		}
		table, _ := evidence.Table(d, x)
		for i := range table {
			table[i] = !table[i]
		}
		cores, _, e := hitting.Cores(len(x.Suspects), table)
		l, _ := Minimal(d, x)
		var want [][]int
		for _, c := range cores {
			want = append(want, list(c))
		}
		slices.SortFunc(want, slices.Compare)
		if e != api.OK || !reflect.DeepEqual(l, want) {
			t.Fatalf("Minimal = %v, want %v", l, want)
		}
		many += len(l)
		named, _ := Named(d, x)
		needed, _ := Needed(d, x)
		for set := range table {
			if table[set] {
				continue
			}
			var rest []int
			for _, s := range list(set) {
				if slices.Contains(named, s) {
					rest = append(rest, s)
				}
			}
			if ok, _ := evidence.Explains(d, x, rest); !ok {
				t.Fatal("whoever is not named")
			}
		}
		for s := range x.Suspects {
			_, ok, _ := Blame(d, x, s)
			if ok != slices.Contains(named, s) || slices.Contains(needed, s) && !ok {
				t.Fatalf("the suspect %d", s)
			}
		}
	}
	if many < 100 {
		t.Errorf("only %d minimal sets", many)
	}
}
