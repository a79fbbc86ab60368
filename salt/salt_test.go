package salt

import (
	"math/rand"
	"slices"
	"testing"

	"acequia/api"
)

const most = 1 << 30

func water(litres, salt int) api.Water { return api.Water{Litres: litres, Salt: salt} }

func bad() []api.Water {
	return []api.Water{water(0, 1), water(-1, 0), water(1, -1), water(most+1, 0), water(1, most+1)}
}

// P43.1: mixing and losing.
func TestMixAndLose(t *testing.T) {
	for i, x := range []struct {
		l    []api.Water
		want api.Water
		e    api.Errno
	}{
		{nil, water(0, 0), 0}, {[]api.Water{water(3, 4), water(5, 0), water(0, 0)}, water(8, 4), 0}, {[]api.Water{water(most, most)}, water(most, most), 0}, {[]api.Water{water(most, 0), water(1, 0)}, water(0, 0), api.ErrSalt}, {[]api.Water{water(1, most), water(1, 1)}, water(0, 0), api.ErrSalt}, {append(bad(), make([]api.Water, 65)...), water(0, 0), api.ErrLimit}, {make([]api.Water, 64), water(0, 0), 0},
	} {
		if w, e := Mix(x.l); w != x.want || e != x.e {
			t.Errorf("Mix %d: %v, %d", i, w, e)
		}
	}
	for i, x := range []struct {
		w          api.Water
		evap, seep int
		left, gone api.Water
		e          api.Errno
	}{
		{water(10, 6), 2, 4, water(4, 3), water(4, 3), 0}, {water(10, 6), 0, 0, water(10, 6), water(0, 0), 0}, {water(10, 7), 0, 3, water(7, 5), water(3, 2), 0}, {water(5, 0), 5, 0, water(0, 0), water(0, 0), 0}, {water(5, 2), 4, 1, water(0, 0), water(1, 2), 0}, {water(0, 0), 0, 0, water(0, 0), water(0, 0), 0},
		{water(5, 2), 5, 0, water(0, 0), water(0, 0), api.ErrSalt}, {water(5, 2), 6, 0, water(0, 0), water(0, 0), api.ErrArg}, {water(5, 2), -1, 0, water(0, 0), water(0, 0), api.ErrArg}, {water(5, 2), 2, 4, water(0, 0), water(0, 0), api.ErrArg}, {water(5, 2), 2, -1, water(0, 0), water(0, 0), api.ErrArg}, {water(5, 2), 5, 1, water(0, 0), water(0, 0), api.ErrArg},
	} {
		if left, gone, e := Lose(x.w, x.evap, x.seep); left != x.left || gone != x.gone || e != x.e {
			t.Errorf("Lose %d: %v, %v, %d", i, left, gone, e)
		}
	}
	for _, w := range bad() {
		_, e1 := Mix([]api.Water{w})
		_, _, e2 := Lose(w, -1, 0)
		_, e3 := Split(w, []int{-1})
		_, _, e4 := Leach(api.Field{Hold: 1}, w)
		_, _, e5 := Turns(api.Field{Hold: 1}, w, -1, 0)
		if e1 != api.ErrSalt || e2 != api.ErrSalt || e3 != api.ErrSalt || e4 != api.ErrSalt || e5 != api.ErrSalt {
			t.Errorf("%v", w)
		}
	}
}

// P43.2: parts.
func TestSplit(t *testing.T) {
	for i, x := range []struct {
		w     api.Water
		parts []int
		want  []api.Water
		e     api.Errno
	}{
		{water(5, 4), []int{2, 2, 1}, []api.Water{water(2, 1), water(2, 2), water(1, 1)}, 0}, {water(0, 0), nil, nil, 0}, {water(0, 0), []int{0, 0}, []api.Water{{}, {}}, 0}, {water(5, 4), []int{0, 5}, []api.Water{{}, water(5, 4)}, 0}, {water(most, most), []int{most}, []api.Water{water(most, most)}, 0},
		{water(5, 4), []int{2, 2}, nil, api.ErrArg}, {water(5, 4), []int{6, -1}, nil, api.ErrArg}, {water(5, 4), []int{most + 1}, nil, api.ErrArg}, {water(-1, 0), make([]int, 65), nil, api.ErrLimit}, {water(0, 0), make([]int, 64), make([]api.Water, 64), 0},
	} {
		if l, e := Split(x.w, x.parts); !slices.Equal(l, x.want) || e != x.e {
			t.Errorf("case %d: %v, %d", i, l, e)
		}
	}
}

// P43.3: leaching.
func TestLeachAndTurns(t *testing.T) {
	field := func(hold, salt int) api.Field { return api.Field{Hold: hold, Salt: salt} }
	g, drain, e := Leach(field(10, 8), water(10, 0))
	if g != field(10, 4) || drain != water(10, 4) || e != api.OK {
		t.Errorf("Leach = %v, %v, %d", g, drain, e)
	}
	if g, drain, e := Leach(field(3, 5), water(0, 0)); g != field(3, 5) || drain != water(0, 0) || e != api.OK {
		t.Errorf("no water: %v, %v", g, drain)
	}
	for _, x := range []struct {
		f api.Field
		w api.Water
	}{{field(0, 0), water(0, 0)}, {field(-1, 0), water(2, 0)}, {field(1, -1), water(1, 1)}, {field(most+1, 0), water(0, 0)}, {field(1, most+1), water(0, 0)}, {field(most, 0), water(1, 0)}, {field(1, most), water(1, 1)}} {
		_, _, e1 := Leach(x.f, x.w)
		_, _, e2 := Turns(x.f, x.w, -1, -1)
		if e1 != api.ErrSalt || e2 != api.ErrSalt {
			t.Errorf("%v, %v: %d, %d", x.f, x.w, e1, e2)
		}
	}
	for i, x := range []struct {
		f           api.Field
		w           api.Water
		most, limit int
		n           int
		ok          bool
		e           api.Errno
	}{
		{field(10, 8), water(10, 0), 400, 2, 2, true, 0}, {field(10, 8), water(10, 0), 1, 2, 0, false, 0}, {field(10, 8), water(10, 0), 2, 2, 2, true, 0}, {field(10, 8), water(10, 0), 0, 8, 0, true, 0}, {field(10, 8), water(10, 0), 0, 7, 0, false, 0}, {field(10, 8), water(10, 9), 400, 8, 0, true, 0}, {field(10, 8), water(10, 9), 400, 7, 0, false, 0}, {field(10, 8), water(0, 0), 400, 7, 0, false, 0},
		{field(1<<29, 1<<29), water(1, 1<<29), 400, 1, 0, false, 0}, {field(10, 8), water(10, 0), -1, 0, 0, false, api.ErrArg}, {field(10, 8), water(10, 0), 401, 0, 0, false, api.ErrArg}, {field(10, 8), water(10, 0), 0, -1, 0, false, api.ErrArg}, {field(10, 8), water(10, 0), 0, most + 1, 0, false, api.ErrArg},
	} {
		if n, ok, e := Turns(x.f, x.w, x.most, x.limit); n != x.n || ok != x.ok || e != x.e {
			t.Errorf("Turns %d: %d, %v, %d", i, n, ok, e)
		}
	}
}

// P43.4 to P43.7: conserved shares, splitting again, and leaching.
func TestLaws(t *testing.T) {
	r := rand.New(rand.NewSource(43))
	for range 2000 {
		parts := make([]int, 1+r.Intn(5))
		litres := 0
		for i := range parts {
			parts[i] = r.Intn(9)
			litres += parts[i]
		}
		w := water(litres, 0)
		if litres > 0 {
			w.Salt = r.Intn(60)
		}
		l, e := Split(w, parts)
		back, _ := Mix(l)
		if e != api.OK || back != w {
			t.Fatalf("%v becomes %v", w, back)
		}
		for i, x := range l {
			if n := x.Salt*litres - w.Salt*parts[i]; litres > 0 && (n <= -litres || n >= litres) {
				t.Fatalf("the part %d of %v", i, l)
			}
		}
		i := r.Intn(len(parts))
		cut := r.Intn(parts[i] + 1)
		finer, _ := Split(w, slices.Concat(parts[:i], []int{cut, parts[i] - cut}, parts[i+1:]))
		if !slices.Equal(finer[:i], l[:i]) || !slices.Equal(finer[i+2:], l[i+1:]) || finer[i].Salt+finer[i+1].Salt != l[i].Salt {
			t.Fatal("a part is split again")
		}
		evap := r.Intn(litres + 1)
		seep := r.Intn(litres - evap + 1)
		if left, gone, e := Lose(w, evap, seep); e == api.OK && (sum(left, gone) != water(litres-evap, w.Salt) || gone.Salt*(litres-evap) > w.Salt*seep) {
			t.Fatalf("%v loses %v", w, gone)
		}
		f := api.Field{Hold: 1 + r.Intn(20), Salt: r.Intn(60)}
		g, drain, _ := Leach(f, w)
		if g.Salt+drain.Salt != f.Salt+w.Salt || w.Salt*f.Hold <= f.Salt*litres && g.Salt > f.Salt {
			t.Fatalf("%v becomes %v", f, g)
		}
		limit := r.Intn(50)
		if n, ok, _ := Turns(f, w, 20, limit); ok {
			f.Salt -= r.Intn(f.Salt + 1)
			if m, ok, _ := Turns(f, w, 20, limit+r.Intn(3)); !ok || m > n {
				t.Fatal("less salt")
			}
		}
	}
}

// P43.7: mixed at once, one after the other, or in another order.
func TestMixing(t *testing.T) {
	r := rand.New(rand.NewSource(44))
	for range 500 {
		var l []api.Water
		for range r.Intn(6) {
			n := 1 + r.Intn(9)
			l = append(l, water(n, r.Intn(20)))
		}
		all, e := Mix(l)
		one := api.Water{}
		for _, w := range l {
			one, _ = Mix([]api.Water{one, w})
		}
		r.Shuffle(len(l), func(i, k int) { l[i], l[k] = l[k], l[i] })
		if other, _ := Mix(l); e != api.OK || other != all || one != all {
			t.Fatalf("%v: %v, %v, %v", l, all, one, other)
		}
	}
}
