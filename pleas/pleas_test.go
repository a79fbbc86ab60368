package pleas

import (
	"math/rand"
	"slices"
	"testing"

	"acequia/api"
)

func rule(then, rank int, body ...int) api.Clause {
	return api.Clause{Then: then, Rank: rank, If: body}
}

func strictly(then int, body ...int) api.Clause {
	return api.Clause{Then: then, Strict: true, If: body}
}

func plea(facts []int, l ...api.Clause) api.Plea {
	for i := range l {
		l[i].No = 2 * i
	}
	return api.Plea{Facts: facts, Clauses: l}
}

// P51.1: valid pleas, and strict literals.
func TestCheckAndStrict(t *testing.T) {
	for i, x := range []struct {
		p      api.Plea
		want   api.Errno
		strict []int
	}{
		{api.Plea{}, 0, nil}, {plea([]int{1}, strictly(-2, 1)), 0, []int{-2, 1}}, {plea([]int{-32, 32 - 1}, strictly(5, -32, 31), strictly(6, 5), strictly(7, 8), rule(9, 0)), 0, []int{-32, 5, 6, 31}}, {plea(nil, strictly(4, 3), strictly(3)), 0, []int{3, 4}},
		{plea([]int{-3, 3}), api.ErrPlea, nil}, {plea([]int{1}, strictly(-1)), api.ErrPlea, nil}, {plea([]int{0}), api.ErrPlea, nil}, {plea([]int{33}), api.ErrPlea, nil}, {plea([]int{-33}), api.ErrPlea, nil}, {plea([]int{2, 1}), api.ErrPlea, nil}, {plea([]int{1, 1}), api.ErrPlea, nil},
		{plea(nil, rule(0, 0)), api.ErrPlea, nil}, {plea(nil, rule(33, 0)), api.ErrPlea, nil}, {plea(nil, rule(1, -1)), api.ErrPlea, nil}, {plea(nil, rule(1, 1<<20+1)), api.ErrPlea, nil}, {plea(nil, rule(1, 0, 2, 2)), api.ErrPlea, nil}, {plea(nil, rule(1, 0, 0)), api.ErrPlea, nil}, {api.Plea{Clauses: []api.Clause{{No: -1, Then: 1}}}, api.ErrPlea, nil}, {api.Plea{Clauses: []api.Clause{{No: 1<<20 + 1, Then: 1}}}, api.ErrPlea, nil}, {api.Plea{Clauses: []api.Clause{{Then: 1}, {Then: 1}}}, api.ErrPlea, nil},
		{api.Plea{Facts: make([]int, 65)}, api.ErrLimit, nil}, {api.Plea{Facts: []int{0}, Clauses: make([]api.Clause, 65)}, api.ErrLimit, nil}, {plea([]int{0}, rule(1, 0, 1, 2, 3, 4, 5, 6, 7, 8, 9)), api.ErrLimit, nil}, {plea(nil, rule(1, 0, 1, 2, 3, 4, 5, 6, 7, 8)), 0, nil},
	} {
		l, e1 := Strict(x.p)
		_, e2 := Answer(x.p, 0)
		_, e3 := Derive(x.p)
		_, e4 := Accepts(x.p, nil)
		if x.want == api.OK && e2 == api.ErrArg {
			e2 = api.OK
		}
		if e := Check(x.p); e != x.want || e1 != e || e2 != e || e3 != e || e4 != e || !slices.Equal(l, x.strict) {
			t.Errorf("plea %d: %d, %v", i, e, l)
		}
	}
}

// P51.2: answers.
func TestAnswer(t *testing.T) {
	const p, r, o = api.ProvedA, api.RefutedA, api.OpenA
	for i, x := range []struct {
		p    api.Plea
		want map[int]int
	}{
		{api.Plea{}, map[int]int{5: r, -5: r}},
		{plea(nil, rule(2, 1), rule(-2, 1)), map[int]int{2: r, -2: r}},
		{plea(nil, rule(2, 2), rule(-2, 1)), map[int]int{2: p, -2: r}},
		{plea([]int{1}, rule(2, 1, 1), rule(-2, 5, 3)), map[int]int{1: p, -1: r, 2: p, -2: r, 3: r}},
		{plea([]int{1}, rule(-1, 9)), map[int]int{1: p, -1: r}},
		{plea(nil, rule(1, 0, 1)), map[int]int{1: o, -1: r}},
		{plea(nil, rule(1, 0, 2), rule(2, 0, 1), rule(-3, 0), rule(3, 0, 1)), map[int]int{1: o, 2: o, 3: r, -3: o}},
		{plea(nil, rule(1, 1, 1), rule(-1, 0)), map[int]int{1: o, -1: o}},
		{plea(nil, rule(1, 0, 1), rule(-1, 1)), map[int]int{1: r, -1: p}},
		{plea(nil, strictly(1, 2), rule(2, 0), rule(-1, 0)), map[int]int{2: p, 1: r, -1: r}},
		{plea(nil, rule(4, 3), rule(4, 1), rule(-4, 2), rule(-4, 3, 5)), map[int]int{4: p, -4: r}},
		{plea(nil, rule(4, 3), rule(4, 1), rule(-4, 2), rule(-4, 3)), map[int]int{4: r, -4: r}},
	} {
		for q, want := range x.want {
			if a, e := Answer(x.p, q); a != want || e != api.OK {
				t.Errorf("plea %d: the answer to %d is %d, want %d", i, q, a, want)
			}
		}
	}
	for _, q := range []int{0, 33, -33, 1 << 62} {
		if a, e := Answer(api.Plea{}, q); a != 0 || e != api.ErrArg {
			t.Errorf("the question %d", q)
		}
	}
}

func proved(q, clause int) api.Reason { return api.Reason{Literal: q, Clause: clause, Proved: true} }

func refuted(q int) api.Reason { return api.Reason{Literal: q} }

// P51.3: derivations, round by round.
func TestDerive(t *testing.T) {
	if l, e := Derive(api.Plea{}); e != api.OK || len(l) != 64 || l[0] != refuted(-32) || l[63] != refuted(32) {
		t.Errorf("the zero plea: %v", l)
	}
	p := plea([]int{1}, rule(2, 0, 1), rule(3, 0, 2), rule(3, 1, 1), rule(-3, 0, 9))
	l, _ := Derive(p)
	var some []api.Reason
	for _, r := range l {
		if r.Literal > -4 && r.Literal < 4 {
			some = append(some, r)
		}
	}
	// In the first round 9 is refuted, so that the clause for -3 is off in the second one.
	want := []api.Reason{refuted(-2), refuted(-1), proved(1, 0), refuted(-3), proved(2, 1), proved(3, 3)}
	if !slices.Equal(some, want) {
		t.Errorf("Derive = %v, want %v", some, want)
	}
}

// P51.3: what follows, and what does not.
func TestAccepts(t *testing.T) {
	p := plea([]int{1}, strictly(5, 1), rule(2, 0, 1), rule(3, 0, 2), rule(3, 1, 1))
	for i, x := range []struct {
		l  []api.Reason
		ok bool
	}{
		{nil, true}, {[]api.Reason{proved(1, 0)}, true}, {[]api.Reason{proved(5, 0)}, true}, {[]api.Reason{proved(5, 1)}, false}, {[]api.Reason{proved(1, 0), proved(5, 1)}, true}, {[]api.Reason{proved(1, 0), proved(5, 2)}, false}, {[]api.Reason{proved(2, 2)}, false}, {[]api.Reason{proved(1, 0), proved(2, 2)}, true}, {[]api.Reason{proved(1, 0), proved(2, 0)}, false}, {[]api.Reason{proved(1, 0), proved(2, 5)}, false}, {[]api.Reason{proved(1, 0), proved(2, -1)}, false},
		{[]api.Reason{proved(1, 0), proved(3, 4)}, true}, {[]api.Reason{proved(1, 0), proved(3, 3)}, false}, {[]api.Reason{proved(1, 0), proved(2, 2), proved(3, 3)}, true}, {[]api.Reason{proved(1, 0), proved(1, 0)}, false}, {[]api.Reason{refuted(7)}, true}, {[]api.Reason{{Literal: 7, Clause: 1}}, false}, {[]api.Reason{refuted(1)}, false}, {[]api.Reason{refuted(0)}, false}, {[]api.Reason{refuted(33)}, false}, {[]api.Reason{proved(7, 0)}, false}, {[]api.Reason{refuted(2)}, false},
	} {
		if ok, e := Accepts(p, x.l); ok != x.ok || e != api.OK {
			t.Errorf("list %d: %v, %d", i, ok, e)
		}
	}
}

func random(r *rand.Rand) api.Plea {
	p := api.Plea{}
	literal := func() int { return (1 + r.Intn(5)) * (1 - 2*r.Intn(2)) }
	if r.Intn(2) == 0 {
		p.Facts = []int{literal()}
	}
	for no := range r.Intn(10) {
		c := api.Clause{No: no, Then: literal(), Rank: r.Intn(4), Strict: r.Intn(6) == 0}
		for range r.Intn(3) {
			c.If = append(c.If, literal())
		}
		slices.Sort(c.If)
		c.If = slices.Compact(c.If)
		p.Clauses = append(p.Clauses, c)
	}
	return p
}

func answers(p api.Plea) map[int]int {
	m := map[int]int{}
	for q := range literals() {
		m[q], _ = Answer(p, q)
	}
	return m
}

// P51.4 to P51.6: coherent answers, derivations in any order, and clauses that do not matter.
func TestLaws(t *testing.T) {
	r := rand.New(rand.NewSource(51))
	valid := 0
	for range 500 {
		p := random(r)
		if Check(p) != api.OK {
			continue
		}
		valid++
		all := answers(p)
		l, _ := Derive(p)
		if ok, _ := Accepts(p, l); !ok {
			t.Fatalf("%v: %v", p, l)
		}
		court := courtOf(p)
		court.derive()
		for q, a := range all {
			i := slices.IndexFunc(l, func(x api.Reason) bool { return x.Literal == q })
			if a == api.ProvedA && all[-q] == api.ProvedA || (i >= 0) != (a != api.OpenA) || i >= 0 && l[i].Proved != (a == api.ProvedA) || court.strict[q] && (a != api.ProvedA || all[-q] != api.RefutedA) {
				t.Fatalf("%v: the answer to %d is %d", p, q, a)
			}
		}
		opposite := api.Plea{}
		for _, q := range p.Facts {
			opposite.Facts = append(opposite.Facts, -q)
		}
		for _, c := range p.Clauses {
			x := api.Clause{No: c.No, Then: -c.Then, Rank: 100 * c.Rank, Strict: c.Strict}
			for _, q := range slices.Backward(c.If) {
				x.If = append(x.If, -q)
			}
			opposite.Clauses = append(opposite.Clauses, x)
		}
		for q, a := range answers(opposite) {
			if all[-q] != a {
				t.Fatalf("%v with opposites: %d", p, q)
			}
		}
		for i, c := range p.Clauses {
			if c.Strict || !court.isOff(c) {
				continue
			}
			for q, a := range answers(api.Plea{Facts: p.Facts, Clauses: slices.Delete(slices.Clone(p.Clauses), i, i+1)}) {
				if all[q] != a {
					t.Fatalf("%v without a clause that is off: %d", p, q)
				}
			}
		}
	}
	if valid < 300 {
		t.Errorf("only %d pleas are valid", valid)
	}
}

// naive finds the answers by the definition, sentence by sentence.
func naive(p api.Plea) map[int]int {
	strict, _ := Strict(p)
	isStrict := func(q int) bool { return slices.Contains(strict, q) }
	proved, refuted := map[int]bool{}, map[int]bool{}
	on := func(c api.Clause) bool { return !slices.ContainsFunc(c.If, func(q int) bool { return !proved[q] }) }
	off := func(c api.Clause) bool { return slices.ContainsFunc(c.If, func(q int) bool { return refuted[q] }) }
	every := func(q int, holds func(c api.Clause) bool) bool {
		return !slices.ContainsFunc(p.Clauses, func(c api.Clause) bool { return c.Then == q && !holds(c) })
	}
	some := func(q int, holds func(c api.Clause) bool) bool {
		return slices.ContainsFunc(p.Clauses, func(c api.Clause) bool { return c.Then == q && holds(c) })
	}
	for range 200 {
		for q := range literals() {
			defended := every(-q, func(s api.Clause) bool {
				return off(s) || some(q, func(c api.Clause) bool { return on(c) && c.Rank > s.Rank })
			})
			if isStrict(q) || !isStrict(-q) && some(q, on) && defended {
				proved[q] = true
			}
			beaten := some(-q, func(s api.Clause) bool {
				return on(s) && every(q, func(c api.Clause) bool { return off(c) || c.Rank <= s.Rank })
			})
			if !isStrict(q) && (isStrict(-q) || every(q, off) || beaten) {
				refuted[q] = true
			}
		}
	}
	m := map[int]int{}
	for q := range literals() {
		m[q] = api.OpenA
		if proved[q] {
			m[q] = api.ProvedA
		}
		if refuted[q] {
			m[q] = api.RefutedA
		}
	}
	return m
}

// P51.2: answers, by the definition.
func TestDefinition(t *testing.T) {
	r := rand.New(rand.NewSource(52))
	for range 100 {
		p := random(r)
		if Check(p) != api.OK {
			continue
		}
		want := naive(p)
		for q, a := range answers(p) {
			if a != want[q] {
				t.Fatalf("%v: the answer to %d is %d, want %d", p, q, a, want[q])
			}
		}
	}
}
