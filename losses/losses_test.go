package losses

import (
	"math/rand"
	"testing"

	"acequia/api"
)

func q(n, d int) api.Ratio { return api.Ratio{N: n, D: d} }

func survey() api.Survey {
	return api.Survey{Surface: 100, Soil: 2, Coef: [2]api.Ratio{q(1, 2), q(1, 1)}, Pans: []api.Pan{{Depth: api.Range{Lo: 24, Hi: 48}}}}
}

// P21.1: evaporation and seepage of surveys.
func TestEvapAndSeep(t *testing.T) {
	share := func(n int) api.Ratio {
		d := 1 << 20
		for n > 0 && n%2 == 0 {
			n, d = n/2, d/2
		}
		if n == 0 {
			d = 1
		}
		return q(n, d)
	}
	for i, x := range []struct {
		change func(s *api.Survey)
		delay  int
		evap   api.Range
		e      api.Errno
		lo, hi int
		f      api.Errno
	}{
		{func(s *api.Survey) {}, 1, api.Range{Lo: 5, Hi: 20}, 0, 256, 1024, 0},
		{func(s *api.Survey) { s.Pans = nil }, 3, api.Range{Hi: 300}, 0, 768, 3072, 0},
		{func(s *api.Survey) { s.Surface, s.Soil = 7, 0 }, 16, api.Range{Lo: 5, Hi: 23}, 0, 0, 1024, 0},
		{func(s *api.Survey) { s.Pans = append(s.Pans, api.Pan{Depth: api.Range{Lo: 30, Hi: 40}}) }, 2, api.Range{Lo: 12, Hi: 34}, 0, 512, 2048, 0},
		{func(s *api.Survey) { s.Pans = append(s.Pans, api.Pan{Depth: api.Range{Lo: 110, Hi: 110}}) }, 1, api.Range{}, api.ErrLoss, 256, 1024, 0},
		{func(s *api.Survey) {
			s.Soil, s.Surface = 5, 1<<20
			s.Pans[0].Depth = api.Range{Lo: 1000, Hi: 1000}
			s.Coef = [2]api.Ratio{q(999, 1000), q(1, 1)}
		}, 16, api.Range{Lo: 69835161, Hi: 69905067}, 0, 32768, 262144, 0},
		{func(s *api.Survey) { s.Ponds = []api.Pond{{Volume: 1000, Hours: 10, Lost: api.Range{Lo: 5, Hi: 8}}} }, 1, api.Range{Lo: 5, Hi: 20}, 0, 524, 839, 0},
		{func(s *api.Survey) {
			s.Ponds = []api.Pond{{Volume: 1000, Hours: 10, Lost: api.Range{Lo: 5, Hi: 8}}, {Volume: 1, Hours: 1, Lost: api.Range{Lo: 0, Hi: 1}}}
		}, 2, api.Range{Lo: 10, Hi: 40}, 0, 1048, 1678, 0},
		{func(s *api.Survey) { s.Ponds = []api.Pond{{Volume: 1, Hours: 1, Lost: api.Range{Lo: 1, Hi: 1}}} }, 1, api.Range{Lo: 5, Hi: 20}, 0, 0, 0, api.ErrLoss},
		{func(s *api.Survey) {
			s.Ponds = []api.Pond{{Volume: 1 << 30, Hours: 4096, Lost: api.Range{Lo: 0, Hi: 0}}}
		}, 1, api.Range{Lo: 5, Hi: 20}, 0, 0, 0, api.ErrLoss},
	} {
		s := survey()
		x.change(&s)
		if y, e := Evap(s, x.delay); y != x.evap || e != x.e {
			t.Errorf("survey %d: Evap %v, %d", i, y, e)
		}
		want := [2]api.Ratio{share(x.lo), share(x.hi)}
		if x.f != api.OK {
			want = [2]api.Ratio{}
		}
		if y, e := Seep(s, x.delay); y != want || e != x.f {
			t.Errorf("survey %d: Seep %v, %d, want %v", i, y, e, want)
		}
	}
}

// P21.1: surveys that are not valid, in the order of the errors.
func TestSurveyErrors(t *testing.T) {
	for i, x := range []struct {
		change func(s *api.Survey)
		delay  int
		want   api.Errno
	}{
		{func(s *api.Survey) { *s = api.Survey{} }, 1, api.ErrLoss}, {func(s *api.Survey) { s.Surface, s.Pans = -1, make([]api.Pan, 17) }, 0, api.ErrLimit}, {func(s *api.Survey) { s.Ponds = make([]api.Pond, 17) }, 1, api.ErrLimit}, {func(s *api.Survey) { s.Surface = -1 }, 0, api.ErrLoss}, {func(s *api.Survey) { s.Surface = 1<<20 + 1 }, 1, api.ErrLoss},
		{func(s *api.Survey) { s.Soil = 6 }, 1, api.ErrLoss}, {func(s *api.Survey) { s.Soil = -1 }, 1, api.ErrLoss}, {func(s *api.Survey) { s.Coef[0] = q(1, 1001) }, 1, api.ErrLoss}, {func(s *api.Survey) { s.Coef[1] = q(1001, 1000) }, 1, api.ErrLoss}, {func(s *api.Survey) { s.Coef[1] = q(1, 3) }, 1, api.ErrLoss}, {func(s *api.Survey) { s.Coef[0] = q(-1, 3) }, 1, api.ErrLoss}, {func(s *api.Survey) { s.Coef[0] = q(2, 4) }, 1, api.ErrLoss},
		{func(s *api.Survey) { s.Pans[0].Depth.Lo = -1 }, 1, api.ErrLoss}, {func(s *api.Survey) { s.Pans[0].Depth.Lo = 49 }, 1, api.ErrLoss}, {func(s *api.Survey) { s.Pans[0].Depth.Hi = 1001 }, 1, api.ErrLoss},
		{func(s *api.Survey) { s.Ponds = []api.Pond{{}} }, 1, api.ErrLoss}, {func(s *api.Survey) { s.Ponds = []api.Pond{{Volume: 1, Hours: 4097}} }, 1, api.ErrLoss}, {func(s *api.Survey) { s.Ponds = []api.Pond{{Volume: 1<<30 + 1, Hours: 1}} }, 1, api.ErrLoss}, {func(s *api.Survey) { s.Ponds = []api.Pond{{Volume: 1, Hours: 1, Lost: api.Range{Hi: 2}}} }, 1, api.ErrLoss},
		{func(s *api.Survey) { s.Ponds = []api.Pond{{Volume: 1, Hours: 1, Lost: api.Range{Lo: 1}}} }, 1, api.ErrLoss}, {func(s *api.Survey) {}, 0, api.ErrArg}, {func(s *api.Survey) {}, 17, api.ErrArg},
	} {
		s := survey()
		x.change(&s)
		y, e := Evap(s, x.delay)
		z, f := Seep(s, x.delay)
		if e != x.want || f != x.want || y != (api.Range{}) || z != [2]api.Ratio{} {
			t.Errorf("survey %d: %d, %d, want %d", i, e, f, x.want)
		}
	}
}

func reach(lo, hi int, least, most api.Ratio) api.Reach {
	return api.Reach{Evap: api.Range{Lo: lo, Hi: hi}, Seep: [2]api.Ratio{least, most}}
}

// P21.2 and P21.3: the example, and the table.
func TestExample(t *testing.T) {
	r := reach(1, 2, q(0, 1), q(1, 10))
	if x, e := Lost(r, 15); x != (api.Range{Lo: 1, Hi: 4}) || e != api.OK {
		t.Errorf("Lost = %v", x)
	}
	if v, ok, e := Need(r, 11); v != 15 || !ok || e != api.OK {
		t.Errorf("Need = %d", v)
	}
	if v, ok, e := Reachable(r, 11); v != 12 || !ok || e != api.OK {
		t.Errorf("Reachable = %d", v)
	}
	if v, e := Most(r, 11); v != 15 || e != api.OK {
		t.Errorf("Most = %d", v)
	}
	all := reach(0, 0, q(1, 1), q(1, 1))
	if v, ok, e := Need(all, 1); v != 0 || ok || e != api.OK {
		t.Error("a reach that loses all")
	}
	if v, e := Most(all, 0); v != api.MaxLitres || e != api.OK {
		t.Error("Most of a reach that loses all")
	}
	if v, ok, e := Need(reach(0, 0, q(0, 1), q(0, 1)), api.MaxLitres); v != api.MaxLitres || !ok || e != api.OK {
		t.Error("a lossless reach")
	}
	if v, ok, e := Reachable(reach(1<<30, 1<<30, q(0, 1), q(0, 1)), 1); v != 0 || ok || e != api.OK {
		t.Error("a reach that evaporates all")
	}
}

// P21.2 and P21.3: wrong reaches, and wrong litres.
func TestErrors(t *testing.T) {
	good := reach(0, 0, q(0, 1), q(0, 1))
	for i, x := range []struct {
		r    api.Reach
		n    int
		want api.Errno
	}{
		{api.Reach{}, -1, api.ErrLoss}, {reach(-1, 0, q(0, 1), q(0, 1)), 0, api.ErrLoss}, {reach(2, 1, q(0, 1), q(0, 1)), 0, api.ErrLoss}, {reach(0, 1<<30+1, q(0, 1), q(0, 1)), 0, api.ErrLoss}, {reach(0, 0, q(1, 2), q(1, 3)), 0, api.ErrLoss}, {reach(0, 0, q(0, 1), q(3, 2)), 0, api.ErrLoss},
		{reach(0, 0, q(-1, 2), q(0, 1)), 0, api.ErrLoss}, {reach(0, 0, q(0, 1), q(2, 4)), 0, api.ErrLoss}, {good, -1, api.ErrArg}, {good, 1<<30 + 1, api.ErrArg}, {good, 1 << 30, api.OK}, {good, 0, api.OK},
	} {
		_, e1 := Lost(x.r, x.n)
		_, e2 := Worst(x.r, x.n)
		_, e3 := Best(x.r, x.n)
		_, _, e4 := Need(x.r, x.n)
		_, _, e5 := Reachable(x.r, x.n)
		_, e6 := Most(x.r, x.n)
		for _, e := range []api.Errno{e1, e2, e3, e4, e5, e6} {
			if e != x.want {
				t.Errorf("case %d: %d, want %d", i, e, x.want)
			}
		}
	}
}

func random(r *rand.Rand) api.Reach {
	lo, d := r.Intn(4), 1+r.Intn(9)
	n := r.Intn(d + 1)
	least := q(0, 1)
	if n*3 < d {
		n = d
	}
	for k := d; k > 1; k-- {
		if n%k == 0 && d%k == 0 {
			n, d = n/k, d/k
		}
	}
	if n > 0 && r.Intn(2) == 0 {
		least = q(n, d)
	}
	if n == 0 {
		d = 1
	}
	return reach(lo, lo+r.Intn(4), least, q(n, d))
}

// P21.4 and P21.6: the least intakes, parcel by parcel; two parcels that go as one.
func TestLaws(t *testing.T) {
	r := rand.New(rand.NewSource(21))
	for range 200 {
		x := random(r)
		at := func(v int) (w, b int) {
			w, e := Worst(x, v)
			b, f := Best(x, v)
			if e != api.OK || f != api.OK || w < 0 || w > b || b > v {
				t.Fatalf("%v: %d, %d of %d", x, w, b, v)
			}
			return w, b
		}
		for v := range 60 {
			w, b := at(v)
			w1, b1 := at(v + 1)
			if w > w1 || b > b1 {
				t.Fatalf("%v brings less of more", x)
			}
			u, _ := at(59 - v)
			if both, _ := at(59); both < w+u {
				t.Fatalf("%v: two parcels", x)
			}
			for n := range 20 {
				need, ok1, _ := Need(x, n)
				best, ok2, _ := Reachable(x, n)
				most, _ := Most(x, n)
				if (w >= n) != (ok1 && v >= need) || (b >= n) != (ok2 && v >= best) || (w <= n) != (v <= most) {
					t.Fatalf("%v: %d of %d", x, n, v)
				}
			}
		}
	}
}

// P21.5: what is measured makes intervals narrower.
func TestMeasured(t *testing.T) {
	r := rand.New(rand.NewSource(22))
	for range 500 {
		s := survey()
		lo, lost := r.Intn(40), r.Intn(20)
		more := s
		more.Pans = append(more.Pans, api.Pan{Depth: api.Range{Lo: lo, Hi: lo + r.Intn(60)}})
		more.Ponds = []api.Pond{{Volume: 10000, Hours: 1 + r.Intn(5), Lost: api.Range{Lo: lost, Hi: lost + r.Intn(30)}}}
		a, _ := Evap(s, 4)
		if b, e := Evap(more, 4); e == api.OK && (b.Lo < a.Lo || b.Hi > a.Hi) {
			t.Fatalf("%v became %v", a, b)
		}
		c, _ := Seep(s, 4)
		if d, e := Seep(more, 4); e == api.OK && (d[0].N*c[0].D < c[0].N*d[0].D || d[1].N*c[1].D > c[1].N*d[1].D) {
			t.Fatalf("%v became %v", c, d)
		}
	}
}
