package hitting

import (
	"math/rand"
	"slices"
	"testing"

	"acequia/api"
)

func family(n int, sets ...int) api.Family { return api.Family{N: n, Sets: sets} }

// subsetOf reports whether a is a proper subset of b.
func subsetOf(a, b int) bool { return a != b && a&^b == 0 }

// minimal returns the sets of n elements that are good, without those that have a proper subset that is.
func minimal(n int, good func(s int) bool) (l []int) {
	for s := range 1 << n {
		least := good(s)
		for p := range s {
			least = least && !(subsetOf(p, s) && good(p))
		}
		if least {
			l = append(l, s)
		}
	}
	return l
}

func hitsAll(f api.Family, s int) bool {
	return !slices.ContainsFunc(f.Sets, func(x int) bool { return x&s == 0 })
}

func random(r *rand.Rand) api.Family {
	f := api.Family{N: r.Intn(6)}
	for range r.Intn(7) {
		f.Sets = append(f.Sets, r.Intn(1<<f.N))
	}
	return f
}

// P15.1: valid families, and their minimal sets.
func TestCheckAndReduce(t *testing.T) {
	for _, x := range []struct {
		f    api.Family
		want api.Errno
	}{
		{family(0), api.OK}, {family(0, 0), api.OK}, {family(12, 4095), api.OK}, {api.Family{N: 12, Sets: make([]int, 64)}, api.OK}, {family(13), api.ErrLimit}, {api.Family{N: -1, Sets: make([]int, 65)}, api.ErrLimit},
		{family(-1), api.ErrHit}, {family(1, 2), api.ErrHit}, {family(3, -1), api.ErrHit}, {family(0, 1), api.ErrHit}, {family(-1<<63, 0), api.ErrHit}, {family(1<<62, 0), api.ErrLimit},
	} {
		a, e1 := Reduce(x.f)
		b, e2 := Hitting(x.f)
		_, _, e3 := Hits(x.f, 0)
		if e := Check(x.f); e != x.want || e1 != e || e2 != e || e3 != e || e != api.OK && (a != nil || b != nil) {
			t.Errorf("Check(%v) = %d", x.f, e)
		}
	}
	for _, x := range []struct {
		f    api.Family
		want []int
	}{{family(3, 1, 3, 4), []int{1, 4}}, {family(3, 4, 1, 4, 1), []int{1, 4}}, {family(2, 3, 0), []int{0}}, {family(2), nil}} {
		if l, e := Reduce(x.f); e != api.OK || !slices.Equal(l, x.want) {
			t.Errorf("Reduce(%v) = %v", x.f, l)
		}
	}
}

// P15.2: minimal hitting sets, by their definition.
func TestHitting(t *testing.T) {
	for _, x := range []struct {
		f    api.Family
		want []int
	}{{family(3, 3, 6), []int{2, 5}}, {family(0), []int{0}}, {family(1, 0), nil}, {family(2), []int{0}}} {
		if l, e := Hitting(x.f); e != api.OK || !slices.Equal(l, x.want) {
			t.Errorf("Hitting(%v) = %v", x.f, l)
		}
	}
	r := rand.New(rand.NewSource(15))
	for range 500 {
		f := random(r)
		want := minimal(f.N, func(s int) bool { return hitsAll(f, s) })
		if l, e := Hitting(f); e != api.OK || !slices.Equal(l, want) {
			t.Fatalf("Hitting(%v) = %v, want %v", f, l, want)
		}
		for s := range 1 << f.N {
			if ok, least, e := Hits(f, s); e != api.OK || ok != hitsAll(f, s) || least != slices.Contains(want, s) {
				t.Fatalf("Hits(%v, %d) = %v, %v", f, s, ok, least)
			}
		}
	}
	if ok, least, e := Hits(family(0), 0); !ok || !least || e != api.OK {
		t.Error("no elements")
	}
	for _, s := range []int{-1, 8, 1 << 62} {
		if ok, least, e := Hits(family(3), s); ok || least || e != api.ErrArg {
			t.Errorf("Hits with %d", s)
		}
	}
}

// table returns the monotone table of the sets that are in none of some sets.
func table(n int, fits func(s int) bool) []bool {
	sat := make([]bool, 1<<n)
	for s := range sat {
		sat[s] = fits(s)
	}
	return sat
}

// P15.3: cores and maximal sets.
func TestCores(t *testing.T) {
	atMostOne := table(3, func(s int) bool { return s&(s-1) == 0 })
	cores, most, e := Cores(3, atMostOne)
	if e != api.OK || !slices.Equal(cores, []int{3, 5, 6}) || !slices.Equal(most, []int{1, 2, 4}) {
		t.Errorf("Cores = %v, %v", cores, most)
	}
	if core, e := Shrink(3, atMostOne, 7); e != api.OK || core != 6 {
		t.Errorf("Shrink = %d", core)
	}
	for _, x := range []struct {
		n             int
		sat           []bool
		cores, most   []int
		e, whenShrunk api.Errno
	}{
		{0, []bool{true}, nil, []int{0}, api.OK, api.ErrArg}, {0, []bool{false}, []int{0}, nil, api.OK, api.OK}, {1, []bool{false, true}, nil, nil, api.ErrHit, api.ErrHit},
		{13, nil, nil, nil, api.ErrLimit, api.ErrLimit}, {-1, nil, nil, nil, api.ErrHit, api.ErrHit}, {1, []bool{true}, nil, nil, api.ErrHit, api.ErrHit}, {1, make([]bool, 3), nil, nil, api.ErrHit, api.ErrHit},
	} {
		cores, most, e := Cores(x.n, x.sat)
		_, f := Shrink(x.n, x.sat, 0)
		if e != x.e || f != x.whenShrunk || !slices.Equal(cores, x.cores) || !slices.Equal(most, x.most) {
			t.Errorf("Cores(%d, %v) = %v, %v, %d; Shrink: %d", x.n, x.sat, cores, most, e, f)
		}
	}
	for _, s := range []int{-1, 8, 1, 0} {
		if core, e := Shrink(3, atMostOne, s); e != api.ErrArg || core != 0 {
			t.Errorf("Shrink of %d", s)
		}
	}
	if cores, _, e := Cores(12, make([]bool, 4096)); e != api.OK || !slices.Equal(cores, []int{0}) {
		t.Error("12 elements")
	}
}

func complements(n int, l []int) (x []int) {
	for _, s := range l {
		x = append(x, 1<<n-1-s)
	}
	slices.Sort(x)
	return x
}

// P15.4: cores and maximal sets are dual. P15.6: Shrink finds a core.
func TestDuality(t *testing.T) {
	r := rand.New(rand.NewSource(16))
	for range 300 {
		f := random(r)
		sat := table(f.N, func(s int) bool {
			return !slices.ContainsFunc(f.Sets, func(x int) bool { return x&^s == 0 })
		})
		cores, most, e := Cores(f.N, sat)
		if e != api.OK {
			t.Fatal(e)
		}
		a, _ := Hitting(family(f.N, complements(f.N, most)...))
		b, _ := Hitting(family(f.N, cores...))
		if !slices.Equal(a, cores) || !slices.Equal(complements(f.N, b), most) {
			t.Fatalf("%v: %v, %v", f, cores, most)
		}
		for s := range sat {
			if sat[s] {
				continue
			}
			if core, e := Shrink(f.N, sat, s); e != api.OK || !slices.Contains(cores, core) || core&^s != 0 {
				t.Fatalf("Shrink of %d is %d", s, core)
			}
		}
	}
}

// P15.5 and P15.6: hitting twice, the order of sets, and a further set.
func TestTwice(t *testing.T) {
	r := rand.New(rand.NewSource(17))
	for range 300 {
		f := random(r)
		once, _ := Hitting(f)
		twice, _ := Hitting(family(f.N, once...))
		reduced, _ := Reduce(f)
		if !slices.Equal(twice, reduced) {
			t.Fatalf("%v: %v, %v", f, twice, reduced)
		}
		mixed := append(slices.Clone(f.Sets), f.Sets...)
		r.Shuffle(len(mixed), func(i, k int) { mixed[i], mixed[k] = mixed[k], mixed[i] })
		if again, _ := Hitting(family(f.N, mixed...)); !slices.Equal(again, once) {
			t.Fatalf("%v in another order", f)
		}
		more, _ := Hitting(family(f.N, append(mixed, r.Intn(1<<f.N))...))
		for _, s := range more {
			if !slices.ContainsFunc(once, func(x int) bool { return x&^s == 0 }) {
				t.Fatalf("%v with a further set", f)
			}
		}
	}
}
