package garment

import (
	"cmp"
	"math/rand"
	"slices"
	"testing"

	"acequia/api"
)

// litre is a litre of a claimant, as the chapter describes it.
type litre struct {
	late                bool
	level, claim, index int
}

// inOrder returns all litres of some claimants, in order.
func inOrder(claims []int) (l []litre) {
	for i, c := range claims {
		for k := 1; k <= c; k++ {
			if 2*k <= c {
				l = append(l, litre{false, k, c, i})
			} else {
				l = append(l, litre{true, c - k + 1, c, i})
			}
		}
	}
	slices.SortFunc(l, func(a, b litre) int {
		switch {
		case a.late != b.late:
			return map[bool]int{false: -1, true: 1}[a.late]
		case !a.late:
			return cmp.Or(cmp.Compare(a.level, b.level), cmp.Compare(b.claim, a.claim), cmp.Compare(a.index, b.index))
		}
		return cmp.Or(cmp.Compare(b.level, a.level), cmp.Compare(a.claim, b.claim), cmp.Compare(b.index, a.index))
	})
	return l
}

func random(r *rand.Rand) (claims []int, sum int) {
	for range r.Intn(6) {
		claims = append(claims, r.Intn(9))
		sum += claims[len(claims)-1]
	}
	return claims, sum
}

// P40.1: awards and marks, litre by litre. P40.2 and P40.3: each claimant finds its award by the mark.
func TestAward(t *testing.T) {
	r := rand.New(rand.NewSource(40))
	for range 500 {
		claims, sum := random(r)
		want, last := make([]int, len(claims)), api.Mark{}
		l := inOrder(claims)
		for estate := range sum + 1 {
			if estate > 0 {
				x := l[estate-1]
				want[x.index]++
				last = api.Mark{Late: x.late, Level: x.level, Claim: x.claim, Index: x.index}
			}
			a, e := Award(estate, claims)
			m, f := Threshold(estate, claims)
			if e != api.OK || f != api.OK || !slices.Equal(a, want) || m != last {
				t.Fatalf("%d of %v: %v, %v, want %v, %v", estate, claims, a, m, want, last)
			}
			for i, c := range claims {
				if n, e := Own(m, i, c); e != api.OK || n != a[i] {
					t.Fatalf("%d of %v: Own of %d is %d", estate, claims, i, n)
				}
			}
		}
	}
	if a, e := Award(3, []int{2, 4}); e != api.OK || !slices.Equal(a, []int{1, 2}) {
		t.Errorf("the example: %v", a)
	}
	if m, _ := Threshold(3, []int{2, 4}); m != (api.Mark{Level: 2, Claim: 4, Index: 1}) {
		t.Errorf("the example: %v", m)
	}
}

// P40.1: the greatest claims.
func TestGreatClaims(t *testing.T) {
	claims := slices.Repeat([]int{1 << 30}, 664)
	for _, estate := range []int{1, 664 << 29, 664<<29 + 1, 664<<30 - 1, 664 << 30} {
		a, e := Award(estate, claims)
		sum := 0
		for _, n := range a {
			sum += n
		}
		if e != api.OK || sum != estate || slices.Max(a)-slices.Min(a) > 1 {
			t.Errorf("the estate %d: %d", estate, sum)
		}
	}
}

// P40.1 and P40.2: errors.
func TestErrors(t *testing.T) {
	for i, x := range []struct {
		estate int
		claims []int
		want   api.Errno
	}{{-1, make([]int, 665), api.ErrLimit}, {0, make([]int, 664), 0}, {1, nil, api.ErrEstate}, {-1, []int{5}, api.ErrEstate}, {6, []int{5}, api.ErrEstate}, {0, []int{-1}, api.ErrEstate}, {0, []int{1<<30 + 1}, api.ErrEstate}, {1 << 62, []int{5}, api.ErrEstate}, {0, nil, 0}} {
		a, e := Award(x.estate, x.claims)
		m, f := Threshold(x.estate, x.claims)
		if e != x.want || f != x.want || e != api.OK && a != nil || m != (api.Mark{}) {
			t.Errorf("case %d: %d, %d", i, e, f)
		}
	}
	for i, x := range []struct {
		m            api.Mark
		index, claim int
		n            int
		want         api.Errno
	}{
		{api.Mark{}, 0, 5, 0, 0}, {api.Mark{Level: 2, Claim: 4, Index: 1}, 0, 100, 2, 0}, {api.Mark{Level: 2, Claim: 4, Index: 1}, 5, 100, 2, 0}, {api.Mark{Level: 2, Claim: 4, Index: 1}, 5, 4, 1, 0}, {api.Mark{Level: 2, Claim: 4, Index: 1}, 1, 4, 2, 0}, {api.Mark{Late: true, Level: 1, Claim: 1, Index: 663}, 663, 1, 1, 0},
		{api.Mark{Level: 3, Claim: 4}, -1, 0, 0, api.ErrEstate}, {api.Mark{Late: true, Level: 3, Claim: 4}, 0, 0, 0, api.ErrEstate}, {api.Mark{Level: 0, Claim: 4}, 0, 0, 0, api.ErrEstate}, {api.Mark{Late: true, Level: 5, Claim: 4}, 0, 0, 0, api.ErrEstate}, {api.Mark{Level: 1, Claim: 1<<30 + 1}, 0, 0, 0, api.ErrEstate}, {api.Mark{Level: 1, Claim: 4, Index: 664}, 0, 0, 0, api.ErrEstate}, {api.Mark{Index: 1}, 0, 0, 0, api.ErrEstate}, {api.Mark{Late: true}, 0, 0, 0, api.ErrEstate},
		{api.Mark{}, -1, 0, 0, api.ErrArg}, {api.Mark{}, 664, 0, 0, api.ErrArg}, {api.Mark{}, 0, -1, 0, api.ErrArg}, {api.Mark{}, 0, 1<<30 + 1, 0, api.ErrArg},
	} {
		if n, e := Own(x.m, x.index, x.claim); n != x.n || e != x.want {
			t.Errorf("Own %d: %d, %d", i, n, e)
		}
	}
	for i, x := range []struct {
		estate, c, d int
		want         api.Range
		e            api.Errno
	}{{3, 2, 4, api.Range{Lo: 1, Hi: 1}, 0}, {5, 2, 2, api.Range{}, api.ErrEstate}, {1, 1, 1, api.Range{Lo: 0, Hi: 1}, 0}, {0, 0, 0, api.Range{}, 0}, {-1, 1, 1, api.Range{}, api.ErrEstate}, {0, -1, 1, api.Range{}, api.ErrEstate}, {0, 1, 1<<30 + 1, api.Range{}, api.ErrEstate}, {7, 3, 5, api.Range{Lo: 2, Hi: 3}, 0}, {1 << 31, 1 << 30, 1 << 30, api.Range{Lo: 1 << 30, Hi: 1 << 30}, 0}} {
		if y, e := Pair(x.estate, x.c, x.d); y != x.want || e != x.e {
			t.Errorf("Pair %d: %v, %d", i, y, e)
		}
	}
}

// P40.4 to P40.6: consistent, like two garments, and without envy.
func TestLaws(t *testing.T) {
	r := rand.New(rand.NewSource(41))
	for range 1000 {
		claims, sum := random(r)
		estate := r.Intn(sum + 1)
		a, _ := Award(estate, claims)
		var some, parts []int
		total, all := 0, 0
		for i, c := range claims {
			all += a[i]
			if r.Intn(2) == 0 {
				some, parts = append(some, c), append(parts, a[i])
				total += a[i]
			}
		}
		again, _ := Award(total, some)
		if !slices.Equal(again, parts) || all != estate {
			t.Fatalf("%v of %v: %v, %v", total, some, again, parts)
		}
		more, _ := Award(min(sum, estate+1), claims)
		for i, c := range claims {
			if a[i] > c || more[i] < a[i] {
				t.Fatal("a greater estate")
			}
			for k, d := range claims {
				x, _ := Pair(a[i]+a[k], c, d)
				if i != k && (a[i] < x.Lo || a[i] > x.Hi) || c > d && (a[i] < a[k] || c-a[i] < d-a[k]) {
					t.Fatalf("%d of %v: %v", estate, claims, a)
				}
			}
		}
		even := slices.Clone(claims)
		for i := range even {
			even[i] *= 2
		}
		half := r.Intn(2*sum + 1)
		x, _ := Award(half, even)
		y, _ := Award(2*sum-half, even)
		for i, c := range even {
			if x[i]+y[i] != c {
				t.Fatalf("%d of %v: %v, %v", half, even, x, y)
			}
		}
	}
}
