package gauges

import (
	"math/rand"
	"testing"

	"acequia/api"
)

func gauge(points ...int) api.Gauge {
	g := api.Gauge{}
	for i := 0; i < len(points); i += 2 {
		g.Table = append(g.Table, api.Rating{Stage: points[i], Flow: points[i+1]})
	}
	return g
}

func span(lo, hi int) api.Range { return api.Range{Lo: lo, Hi: hi} }

// P24.1: valid gauges.
func TestCheck(t *testing.T) {
	for i, x := range []struct {
		change func(g *api.Gauge)
		want   api.Errno
	}{
		{func(g *api.Gauge) {}, api.OK}, {func(g *api.Gauge) { *g = api.Gauge{} }, api.ErrGauge}, {func(g *api.Gauge) { g.Table, g.No = make([]api.Rating, 65), -1 }, api.ErrLimit}, {func(g *api.Gauge) { g.No = 1<<20 + 1 }, api.ErrGauge}, {func(g *api.Gauge) { g.Reach = 64 }, api.ErrGauge}, {func(g *api.Gauge) { g.Reach = -1 }, api.ErrGauge},
		{func(g *api.Gauge) { g.Class = 1001 }, api.ErrGauge}, {func(g *api.Gauge) { g.Drift = 1001 }, api.ErrGauge}, {func(g *api.Gauge) { g.Drift = -1 }, api.ErrGauge}, {func(g *api.Gauge) { g.Since = 4097 }, api.ErrGauge}, {func(g *api.Gauge) { g.No, g.Reach, g.Class, g.Drift, g.Since = 1<<20, 63, 1000, 1000, 4096 }, api.OK},
		{func(g *api.Gauge) { g.Table[1].Stage = 0 }, api.ErrGauge}, {func(g *api.Gauge) { g.Table[0].Stage = -1 }, api.ErrGauge}, {func(g *api.Gauge) { g.Table[1].Stage = 1<<20 + 1 }, api.ErrGauge}, {func(g *api.Gauge) { g.Table[0].Flow = 26 }, api.ErrGauge}, {func(g *api.Gauge) { g.Table[0].Flow = -1 }, api.ErrGauge}, {func(g *api.Gauge) { g.Table[1].Flow = 1<<30 + 1 }, api.ErrGauge}, {func(g *api.Gauge) { g.Table[1] = api.Rating{Stage: 1 << 20, Flow: 1 << 30} }, api.OK}, {func(g *api.Gauge) { g.Table[0].Flow = 25 }, api.OK},
	} {
		g := gauge(0, 0, 10, 25)
		x.change(&g)
		_, e1 := Flow(g, 0)
		_, e2 := Read(g, 0, 0)
		_, _, e3 := Stage(g, 0)
		if e := Check(g); e != x.want || e1 != e || e2 != e || e3 != e {
			t.Errorf("change %d: %d, want %d", i, e, x.want)
		}
	}
}

// P24.1 and P24.2: the examples, and arguments that are wrong.
func TestExamples(t *testing.T) {
	g := gauge(0, 0, 10, 25)
	for _, x := range []struct{ stage, lo, hi int }{{0, 0, 0}, {3, 7, 8}, {4, 10, 10}, {10, 25, 25}, {11, 25, 25}, {1 << 20, 25, 25}} {
		if y, e := Flow(g, x.stage); y != span(x.lo, x.hi) || e != api.OK {
			t.Errorf("Flow(%d) = %v", x.stage, y)
		}
	}
	if x, e := Flow(gauge(5, 9), 0); x != span(9, 9) || e != api.OK {
		t.Error("one point")
	}
	g.Class, g.Drift, g.Since = 1, 2, 10
	for _, x := range []struct{ stage, hour, lo, hi int }{{3, 0, 5, 10}, {3, 33, 5, 10}, {3, 34, 0, 15}, {0, 0, 0, 3}, {10, 57, 17, 25}, {10, 58, 12, 25}, {1 << 20, 4096, 25, 25}} {
		if y, e := Read(g, x.stage, x.hour); y != span(x.lo, x.hi) || e != api.OK {
			t.Errorf("Read(%d, %d) = %v", x.stage, x.hour, y)
		}
	}
	for _, x := range []struct {
		g    api.Gauge
		flow int
		want api.Range
		ok   bool
	}{{g, 7, span(3, 3), true}, {gauge(0, 0, 1, 9), 5, span(0, 0), false}, {gauge(5, 9), 9, span(0, 1<<20), true}, {gauge(5, 9), 8, span(0, 0), false}, {g, 25, span(10, 1<<20), true}, {g, 26, span(0, 0), false}, {g, 0, span(0, 0), true}, {g, 5, span(2, 2), true}} {
		if y, ok, e := Stage(x.g, x.flow); y != x.want || ok != x.ok || e != api.OK {
			t.Errorf("Stage(%d) = %v, %v", x.flow, y, ok)
		}
	}
	for _, n := range []int{-1, 1<<20 + 1} {
		_, e1 := Flow(g, n)
		_, e2 := Read(g, n, 0)
		if e1 != api.ErrArg || e2 != api.ErrArg {
			t.Errorf("the stage %d", n)
		}
	}
	_, e1 := Read(g, 0, -1)
	_, e2 := Read(g, 0, 4097)
	_, _, e3 := Stage(g, -1)
	_, _, e4 := Stage(g, 1<<30+1)
	if e1 != api.ErrArg || e2 != api.ErrArg || e3 != api.ErrArg || e4 != api.ErrArg {
		t.Error("hours and flows")
	}
}

func random(r *rand.Rand) api.Gauge {
	g := api.Gauge{Class: r.Intn(4), Drift: r.Intn(3), Since: r.Intn(50)}
	stage, litres := r.Intn(5), r.Intn(5)
	for range 1 + r.Intn(5) {
		g.Table = append(g.Table, api.Rating{Stage: stage, Flow: litres})
		stage, litres = stage+1+r.Intn(8), litres+r.Intn(20)
	}
	return g
}

// P24.3 to P24.5: what is read contains the truth, and stages are those of flows.
func TestLaws(t *testing.T) {
	r := rand.New(rand.NewSource(24))
	contains := func(a, b api.Range) bool { return a.Lo <= b.Lo && b.Hi <= a.Hi }
	for range 200 {
		g, hour := random(r), r.Intn(100)
		off := g.Class + g.Drift*(max(0, hour-g.Since)/24)
		for stage := range 50 {
			read, _ := Read(g, stage, hour)
			for truth := max(0, stage-off); truth <= stage+off; truth++ {
				if x, _ := Flow(g, truth); !contains(read, x) {
					t.Fatalf("%v: the stage %d, read as %d", g, truth, stage)
				}
			}
			a, _ := Flow(g, stage)
			b, _ := Flow(g, stage+1)
			if a.Lo > b.Lo || a.Hi > b.Hi || a.Hi > a.Lo+1 {
				t.Fatalf("%v: %v and %v", g, a, b)
			}
			for n := range 60 {
				x, ok, _ := Stage(g, n)
				if (ok && x.Lo <= stage && stage <= x.Hi) != (a.Lo <= n && n <= a.Hi) {
					t.Fatalf("%v: the flow %d at %d", g, n, stage)
				}
			}
			better := g
			better.Class, better.Drift, better.Since = r.Intn(g.Class+1), r.Intn(g.Drift+1), g.Since+r.Intn(max(1, hour-g.Since+1))
			if x, _ := Read(better, stage, hour); hour >= g.Since && !contains(read, x) {
				t.Fatalf("%v reads better than %v", g, better)
			}
		}
		for _, p := range g.Table {
			if x, _ := Flow(g, p.Stage); x != span(p.Flow, p.Flow) {
				t.Fatalf("%v at a point", g)
			}
		}
	}
	a, b := gauge(0, 0, 10, 30), gauge(0, 0, 4, 12, 10, 30)
	for stage := range 12 {
		x, _ := Flow(a, stage)
		if y, _ := Flow(b, stage); x != y {
			t.Errorf("a point more at %d", stage)
		}
	}
}
