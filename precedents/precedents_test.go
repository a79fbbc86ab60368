package precedents

import (
	"math/rand"
	"slices"
	"testing"

	"acequia/api"
)

func decided(no, hour, winner int, facts, reason []int) api.Case {
	return api.Case{No: no, Hour: hour, Winner: winner, Facts: facts, Reason: reason}
}

// cases has the factors 0 and 1 for the plaintiff, 2 and 3 for the defendant.
func cases(l ...api.Case) api.Cases {
	return api.Cases{Sides: []int{0, 0, 1, 1}, Cases: l}
}

func numbered(no int, c api.Case) api.Case {
	c.No = no
	return c
}

// P52.1: valid cases.
func TestCheck(t *testing.T) {
	good := decided(3, 5, 0, []int{0, 1, 2}, []int{1})
	for i, x := range []struct {
		b    api.Cases
		want api.Errno
	}{
		{api.Cases{}, 0}, {cases(good), 0}, {cases(good, decided(1<<20, 4096, 1, []int{3}, []int{3})), 0}, {cases(decided(0, 0, 1, nil, nil)), 0}, {api.Cases{Sides: make([]int, 33)}, api.ErrLimit}, {api.Cases{Sides: []int{2}, Cases: make([]api.Case, 65)}, api.ErrLimit}, {api.Cases{Sides: make([]int, 32)}, 0}, {api.Cases{Sides: []int{2}}, api.ErrCase}, {api.Cases{Sides: []int{-1}}, api.ErrCase},
		{cases(good, good), api.ErrCase}, {cases(good, decided(4, 4, 0, nil, nil)), api.ErrCase}, {cases(decided(-1, 0, 0, nil, nil)), api.ErrCase}, {cases(decided(1<<20+1, 0, 0, nil, nil)), api.ErrCase}, {cases(decided(0, -1, 0, nil, nil)), api.ErrCase}, {cases(decided(0, 4097, 0, nil, nil)), api.ErrCase}, {cases(decided(0, 0, 2, nil, nil)), api.ErrCase}, {cases(decided(0, 0, -1, nil, nil)), api.ErrCase},
		{cases(decided(0, 0, 0, []int{4}, nil)), api.ErrCase}, {cases(decided(0, 0, 0, []int{-1}, nil)), api.ErrCase}, {cases(decided(0, 0, 0, []int{1, 0}, nil)), api.ErrCase}, {cases(decided(0, 0, 0, []int{1, 1}, nil)), api.ErrCase}, {cases(decided(0, 0, 0, []int{1}, []int{0})), api.ErrCase}, {cases(decided(0, 0, 0, []int{1, 2}, []int{2})), api.ErrCase}, {cases(decided(0, 0, 0, []int{0, 1}, []int{1, 0})), api.ErrCase},
	} {
		_, _, _, e1 := Clash(x.b)
		_, _, e2 := Binds(x.b, nil, 0)
		_, _, e3 := May(x.b, nil, nil, 0)
		_, _, e4 := Distinguish(x.b, -1, nil)
		if x.want == api.OK && e4 == api.ErrArg {
			e4 = api.OK
		}
		if e := Check(x.b); e != x.want || e1 != e || e2 != e || e3 != e || e4 != e {
			t.Errorf("case %d: %d, %d, %d, %d, %d, want %d", i, e, e1, e2, e3, e4, x.want)
		}
	}
}

// P52.1 and P52.2: clashes, and what binds.
func TestClashAndBinds(t *testing.T) {
	a := decided(1, 0, 0, []int{0, 2}, []int{0})
	b := decided(2, 0, 1, []int{1, 2}, []int{2})
	c := decided(3, 0, 1, []int{0, 2, 3}, []int{2, 3})
	d := decided(4, 0, 1, []int{0, 2}, []int{2})
	for i, x := range []struct {
		b    api.Cases
		i, j int
		ok   bool
	}{{cases(), 0, 0, false}, {cases(a, b), 0, 0, false}, {cases(a, c), 0, 0, false}, {cases(a, d), 0, 1, true}, {cases(a, b, c, d), 0, 3, true}, {cases(b, numbered(5, a), numbered(6, c), numbered(7, d)), 1, 3, true}} {
		if i2, j, ok, e := Clash(x.b); i2 != x.i || j != x.j || ok != x.ok || e != api.OK {
			t.Errorf("case %d: %d, %d, %v, %d", i, i2, j, ok, e)
		}
	}
	for i, x := range []struct {
		facts []int
		side  int
		index int
		ok    bool
		e     api.Errno
	}{
		{[]int{0, 2}, 0, 0, true, 0}, {[]int{0, 1, 2}, 0, 0, true, 0}, {[]int{0, 3}, 0, 0, false, 0}, {[]int{0}, 0, 0, true, 0}, {[]int{1, 2}, 1, 1, true, 0}, {[]int{0, 2, 3}, 1, 2, true, 0}, {[]int{0, 2}, 1, 0, false, 0}, {nil, 0, 0, false, 0}, {[]int{1, 2, 3}, 1, 1, true, 0},
		{[]int{4}, 2, 0, false, api.ErrCase}, {[]int{1, 0}, 0, 0, false, api.ErrCase}, {nil, 2, 0, false, api.ErrArg}, {nil, -1, 0, false, api.ErrArg},
	} {
		if index, ok, e := Binds(cases(a, b, c), x.facts, x.side); index != x.index || ok != x.ok || e != x.e {
			t.Errorf("Binds %d: %d, %v, %d", i, index, ok, e)
		}
	}
}

// P52.2 and P52.3: what may be decided, and what distinguishes.
func TestMayAndDistinguish(t *testing.T) {
	b := cases(decided(1, 0, 0, []int{0, 2}, []int{0}), decided(2, 0, 1, []int{1, 2}, []int{2}))
	for i, x := range []struct {
		facts, reason []int
		side, index   int
		ok            bool
		e             api.Errno
	}{
		{[]int{0, 2}, []int{0}, 0, 0, true, 0}, {[]int{0, 2}, []int{2}, 1, 0, false, 0}, {[]int{0, 2, 3}, []int{2}, 1, 0, false, 0}, {[]int{0, 2, 3}, []int{2, 3}, 1, 0, true, 0}, {[]int{1, 2}, []int{1}, 0, 1, false, 0}, {[]int{0, 1, 2}, []int{0, 1}, 0, 0, true, 0}, {nil, nil, 0, 0, true, 0}, {[]int{2}, nil, 0, 1, false, 0},
		{[]int{4}, []int{9}, 5, 0, false, api.ErrCase}, {[]int{0}, []int{1}, 2, 0, false, api.ErrArg}, {[]int{0}, []int{1}, 0, 0, false, api.ErrCase}, {[]int{0, 2}, []int{2}, 0, 0, false, api.ErrCase}, {[]int{0, 1}, []int{1, 0}, 0, 0, false, api.ErrCase}, {[]int{0, 1}, []int{4}, 0, 0, false, api.ErrCase},
	} {
		if index, ok, e := May(b, x.facts, x.reason, x.side); index != x.index || ok != x.ok || e != x.e {
			t.Errorf("May %d: %d, %v, %d", i, index, ok, e)
		}
	}
	for i, x := range []struct {
		index int
		facts []int
		want  []int
		ok    bool
		e     api.Errno
	}{
		{0, []int{0, 2}, nil, false, 0}, {0, []int{0, 2, 3}, []int{3}, true, 0}, {0, []int{1, 2, 3}, []int{3}, false, 0}, {1, []int{0, 1, 2}, []int{0}, true, 0}, {0, nil, nil, false, 0}, {2, nil, nil, false, api.ErrArg}, {-1, nil, nil, false, api.ErrArg}, {-1, []int{4}, nil, false, api.ErrCase},
	} {
		if l, ok, e := Distinguish(b, x.index, x.facts); !slices.Equal(l, x.want) || ok != x.ok || e != x.e {
			t.Errorf("Distinguish %d: %v, %v, %d", i, l, ok, e)
		}
	}
}

func list(s int) (l []int) {
	for i := range 4 {
		if s>>i&1 == 1 {
			l = append(l, i)
		}
	}
	return l
}

func random(r *rand.Rand) api.Cases {
	b := cases()
	for no := range r.Intn(5) {
		facts, winner := r.Intn(16), r.Intn(2)
		reason := facts & []int{3, 12}[winner] & r.Intn(16)
		b.Cases = append(b.Cases, decided(no, no, winner, list(facts), list(reason)))
	}
	return b
}

// P52.4 to P52.6: a fortiori, the court goes on, and further cases and factors.
func TestLaws(t *testing.T) {
	r := rand.New(rand.NewSource(52))
	for range 500 {
		b := random(r)
		_, _, clash, _ := Clash(b)
		for facts := range 16 {
			bound := [2]bool{}
			for side := range 2 {
				_, bound[side], _ = Binds(b, list(facts), side)
				permitted := false
				for reason := range 16 {
					if _, ok, e := May(b, list(facts), list(reason), 1-side); e == api.OK && ok {
						permitted = true
						checkNext(t, b, clash, facts, reason, 1-side)
					}
				}
				_, whole, _ := May(b, list(facts), list(facts&[]int{12, 3}[side]), 1-side)
				if bound[side] == permitted || whole != permitted {
					t.Fatalf("%v, %v for %d: %v, %v, %v", b, list(facts), side, bound[side], permitted, whole)
				}
				if _, more, _ := Binds(b, list(facts|1<<(2*side)), side); bound[side] && !more {
					t.Fatal("a further factor")
				}
			}
			if !clash && bound[0] && bound[1] {
				t.Fatal("both sides are bound")
			}
			for i, c := range b.Cases {
				s, _ := setOf(c.Reason, 4)
				_, distinguished, _ := Distinguish(b, i, list(facts))
				alone := cases(c)
				_, binds, _ := Binds(alone, list(facts), c.Winner)
				if governs := s.within(set(facts)); governs != (binds || distinguished) || binds && distinguished {
					t.Fatalf("the case %d", i)
				}
			}
		}
	}
}

// checkNext adds a decision that is permitted.
func checkNext(t *testing.T, b api.Cases, clash bool, facts, reason, side int) {
	t.Helper()
	b.Cases = append(slices.Clone(b.Cases), decided(99, 99, side, list(facts), list(reason)))
	if _, _, ok, e := Clash(b); e != api.OK || ok && !clash {
		t.Fatalf("%v clash", b)
	}
}
