package ensembles

import (
	"math/rand"
	"slices"
	"testing"

	"acequia/api"
)

func of(members ...[]int) api.Ensemble { return api.Ensemble{Members: members} }

func span(lo, hi int) api.Range { return api.Range{Lo: lo, Hi: hi} }

// P36.1: valid ensembles.
func TestCheck(t *testing.T) {
	for i, x := range []struct {
		x    api.Ensemble
		want api.Errno
	}{
		{api.Ensemble{}, api.ErrEnsemble}, {of([]int{1}), 0}, {of([]int{}), api.ErrEnsemble}, {of([]int{1}, []int{1, 2}), api.ErrEnsemble}, {of([]int{-1}), api.ErrEnsemble}, {of([]int{1 << 30}), 0}, {of([]int{1<<30 + 1}), api.ErrEnsemble}, {api.Ensemble{Body: 64, Members: [][]int{{1}}}, api.ErrEnsemble}, {api.Ensemble{Body: -1, Members: [][]int{{1}}}, api.ErrEnsemble},
		{api.Ensemble{Body: 63, Made: 1 << 40, Members: [][]int{{1}}}, 0}, {api.Ensemble{Made: 1<<40 + 1, Members: [][]int{{1}}}, api.ErrEnsemble}, {api.Ensemble{Made: -1, Members: [][]int{{1}}}, api.ErrEnsemble}, {of(make([][]int, 65)...), api.ErrLimit}, {of([]int{1}, make([]int, 17)), api.ErrLimit}, {of(slices.Repeat([][]int{make([]int, 16)}, 64)...), 0},
	} {
		_, e1 := Bounds(x.x, 0, 0)
		_, e2 := Totals(x.x, 0, 0)
		if e := Check(x.x); e != x.want || e1 != e || e2 != e {
			t.Errorf("ensemble %d: %d, %d, %d, want %d", i, e, e1, e2, x.want)
		}
	}
}

// P36.1: bounds without some of the least and the greatest numbers.
func TestBoundsAndTotals(t *testing.T) {
	x := of([]int{3, 9, 1}, []int{9, 1, 1}, []int{5, 5, 1})
	for _, y := range []struct {
		low, high      int
		bounds, totals []api.Range
	}{
		{0, 0, []api.Range{span(3, 9), span(1, 9), span(1, 1)}, []api.Range{span(3, 9), span(10, 12), span(11, 13)}},
		{1, 1, []api.Range{span(5, 5), span(5, 5), span(1, 1)}, []api.Range{span(5, 5), span(10, 10), span(11, 11)}},
		{2, 0, []api.Range{span(9, 9), span(9, 9), span(1, 1)}, []api.Range{span(9, 9), span(12, 12), span(13, 13)}},
	} {
		b, e := Bounds(x, y.low, y.high)
		s, f := Totals(x, y.low, y.high)
		if e != api.OK || f != api.OK || !slices.Equal(b, y.bounds) || !slices.Equal(s, y.totals) {
			t.Errorf("%d, %d: %v, %v", y.low, y.high, b, s)
		}
	}
	for _, y := range [][2]int{{-1, 0}, {0, -1}, {3, 0}, {1, 2}, {1<<63 - 1, 1<<63 - 1}, {0, 3}} {
		b, e := Bounds(x, y[0], y[1])
		s, f := Totals(x, y[0], y[1])
		if e != api.ErrArg || f != api.ErrArg || b != nil || s != nil {
			t.Errorf("%v: %d, %d", y, e, f)
		}
	}
}

// P36.2: what all lists admit.
func TestMeet(t *testing.T) {
	for i, x := range []struct {
		l    [][]api.Range
		want []api.Range
		ok   bool
		e    api.Errno
	}{
		{[][]api.Range{{span(2, 6)}, {span(4, 9)}}, []api.Range{span(4, 6)}, true, 0}, {[][]api.Range{{span(2, 3)}, {span(4, 9)}}, nil, false, 0}, {[][]api.Range{{span(2, 4), span(0, 9)}, {span(4, 9), span(3, 3)}}, []api.Range{span(4, 4), span(3, 3)}, true, 0}, {[][]api.Range{{span(1, 1<<40)}}, []api.Range{span(1, 1<<40)}, true, 0},
		{nil, nil, false, api.ErrEnsemble}, {[][]api.Range{{}}, nil, false, api.ErrEnsemble}, {[][]api.Range{{span(1, 2)}, {}}, nil, false, api.ErrEnsemble}, {[][]api.Range{{span(2, 1)}}, nil, false, api.ErrEnsemble}, {[][]api.Range{{span(-1, 1)}}, nil, false, api.ErrEnsemble}, {[][]api.Range{{span(0, 1<<40+1)}}, nil, false, api.ErrEnsemble},
		{make([][]api.Range, 65), nil, false, api.ErrLimit}, {[][]api.Range{make([]api.Range, 17)}, nil, false, api.ErrLimit}, {slices.Repeat([][]api.Range{make([]api.Range, 16)}, 64), make([]api.Range, 16), true, 0},
	} {
		if b, ok, e := Meet(x.l); !slices.Equal(b, x.want) || ok != x.ok || e != x.e {
			t.Errorf("case %d: %v, %v, %d", i, b, ok, e)
		}
	}
	l := [][]api.Range{{span(2, 6)}, {span(4, 9)}}
	Meet(l)
	if l[0][0] != span(2, 6) {
		t.Error("an argument has changed")
	}
}

// P36.3 to P36.6: exchange, trimming, order, and a further member.
func TestLaws(t *testing.T) {
	r := rand.New(rand.NewSource(36))
	for range 500 {
		many := 2 + r.Intn(7)
		x := api.Ensemble{}
		for _, n := range r.Perm(20)[:many] {
			x.Members = append(x.Members, []int{n * (1 + r.Intn(2)), r.Intn(4)})
		}
		low := r.Intn(many)
		high := r.Intn(many - low)
		b, _ := Bounds(x, low, high)
		s, _ := Totals(x, low, high)
		mixed := api.Ensemble{Members: slices.Clone(x.Members)}
		r.Shuffle(many, func(i, k int) { mixed.Members[i], mixed.Members[k] = mixed.Members[k], mixed.Members[i] })
		same, _ := Bounds(mixed, low, high)
		if !slices.Equal(b, same) || s[0] != b[0] {
			t.Fatal("the order of members")
		}
		for k := range b {
			below, above, outside := 0, 0, 0
			for i, m := range x.Members {
				if m[k] < b[k].Lo {
					below++
				}
				if m[k] > b[k].Hi {
					above++
				}
				others := api.Ensemble{Members: slices.Delete(slices.Clone(x.Members), i, i+1)}
				if o, e := Bounds(others, low, high); e == api.OK && (m[k] < o[k].Lo || m[k] > o[k].Hi) {
					outside++
				}
			}
			if below > low || above > high || outside > low+high+2 {
				t.Fatalf("%d below, %d above, %d outside", below, above, outside)
			}
		}
		for i := range x.Members {
			x.Members[i] = []int{100 * i}
		}
		if many >= low+high+2 {
			checkExchange(t, x, low, high)
		}
	}
}

// checkExchange counts the members that lie outside the bounds of the others, if all are different.
func checkExchange(t *testing.T, x api.Ensemble, low, high int) {
	t.Helper()
	outside := 0
	for i := range x.Members {
		others := api.Ensemble{Members: slices.Delete(slices.Clone(x.Members), i, i+1)}
		o, e := Bounds(others, low, high)
		if e != api.OK || x.Members[i][0] < o[0].Lo || x.Members[i][0] > o[0].Hi {
			outside++
		}
	}
	if outside != low+high+2 {
		t.Fatalf("%d outside, without %d and %d", outside, low, high)
	}
}

// P36.5: what lies within all lists lies within what they have in common. P36.6: a further member.
func TestFurtherMember(t *testing.T) {
	r := rand.New(rand.NewSource(37))
	for range 500 {
		x := api.Ensemble{}
		for range 2 + r.Intn(6) {
			x.Members = append(x.Members, []int{r.Intn(20)})
		}
		low := r.Intn(len(x.Members) - 1)
		more := api.Ensemble{Members: append(slices.Clone(x.Members), []int{r.Intn(20)})}
		with, _ := Bounds(more, low, 0)
		same, _ := Bounds(x, low, 0)
		least := 0
		if low > 0 {
			before, _ := Bounds(x, low-1, 0)
			least = before[0].Lo
		}
		if with[0].Lo > same[0].Lo || with[0].Lo < least {
			t.Fatalf("%v begins at %d", more, with[0].Lo)
		}
		a, b := span(r.Intn(6), 6+r.Intn(6)), span(r.Intn(12), 12)
		common, ok, _ := Meet([][]api.Range{{a}, {b}})
		for n := range 14 {
			in := a.Lo <= n && n <= a.Hi && b.Lo <= n && n <= b.Hi
			if in != (ok && common[0].Lo <= n && n <= common[0].Hi) {
				t.Fatalf("%d in %v and %v", n, a, b)
			}
		}
	}
}
