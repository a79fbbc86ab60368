package wells

import (
	"math/rand"
	"slices"
	"testing"

	"acequia/api"
)

func well(d int, kernel ...int) api.Well { return api.Well{D: d, Kernel: kernel} }

func district(wells ...api.Well) api.District {
	return api.District{Hours: 1, Reaches: []api.Reach{{Up: -1, Delay: 1, Seep: [2]api.Ratio{{D: 1}, {D: 1}}}}, Farms: []api.Farm{{Crop: -1}}, Wells: wells}
}

func wrong() []api.Well {
	return []api.Well{{}, well(2), well(0, 0), well(2, 1, 2), well(2, 3), well(2, -1), well(1<<20+1, 1), {Farm: -1, D: 1, Kernel: []int{1}}, {Reach: -1, D: 1, Kernel: []int{1}}, {Farm: 600, D: 1, Kernel: []int{1}}, {Reach: 64, D: 1, Kernel: []int{1}}}
}

// P42.1: wells of a district.
func TestCheck(t *testing.T) {
	good := well(1<<20, 1<<19, 1<<19)
	long := well(1, make([]int, 65)...)
	for i, x := range []struct {
		d    api.District
		want api.Errno
	}{
		{district(), 0}, {district(good), 0}, {district(slices.Repeat([]api.Well{good}, 64)...), 0}, {district(slices.Repeat([]api.Well{{}}, 65)...), api.ErrLimit}, {district(api.Well{}, long), api.ErrLimit}, {district(good, api.Well{}), api.ErrWell}, {api.District{Wells: make([]api.Well, 65)}, api.ErrDistrict}, {district(api.Well{Farm: 1, D: 1, Kernel: []int{1}}), api.ErrWell}, {district(api.Well{Reach: 1, D: 1, Kernel: []int{1}}), api.ErrWell},
	} {
		if e := Check(x.d); e != x.want {
			t.Errorf("case %d: %d, want %d", i, e, x.want)
		}
	}
	for i, w := range wrong() {
		if e := Check(district(w)); e != api.ErrWell {
			t.Errorf("well %d: %d", i, e)
		}
	}
}

// P42.2 and P42.3: what is owed, and what is left after returns.
func TestOwedAndRepaid(t *testing.T) {
	for i, x := range []struct {
		w                            api.Well
		pumped, owed, returned, debt []int
	}{
		{well(2, 1, 1), []int{3, 0}, []int{1, 2, 0}, []int{1, 2, 0}, []int{0, 0, 0}}, {well(2, 1, 1), []int{3, 0}, []int{1, 2, 0}, []int{0, 1, 5}, []int{1, 2, 0}}, {well(3, 0, 0, 1), []int{2, 2, 2}, []int{0, 0, 0, 1, 1}, []int{0, 0, 0, 0, 1}, []int{0, 0, 0, 1, 1}}, {well(1, 1), nil, nil, nil, nil},
		{well(1<<20, 1<<20), []int{1 << 30}, []int{1 << 30}, []int{1 << 29}, []int{1 << 29}}, {well(1, 1), []int{5, 0}, []int{5, 0}, []int{9, 0}, []int{0, 0}},
	} {
		owed, e := Owed(x.w, x.pumped)
		debt, f := Repaid(x.w, x.pumped, x.returned)
		if e != api.OK || f != api.OK || !slices.Equal(owed, x.owed) || !slices.Equal(debt, x.debt) {
			t.Errorf("case %d: %v, %v, %d, %d", i, owed, debt, e, f)
		}
	}
}

// P42.2 and P42.3: errors.
func TestErrors(t *testing.T) {
	good := api.Well{Farm: 599, Reach: 63, D: 1, Kernel: []int{1}}
	type call struct {
		w      api.Well
		pumped []int
		want   api.Errno
	}
	l := []call{{good, make([]int, 400), 0}, {good, make([]int, 401), api.ErrLimit}, {well(0, make([]int, 65)...), nil, api.ErrLimit}, {well(1, make([]int, 64)...), nil, 0}, {good, []int{-1}, api.ErrWell}, {good, []int{1<<30 + 1}, api.ErrWell}}
	for _, w := range wrong() {
		l = append(l, call{w, nil, api.ErrWell})
	}
	for i, x := range l {
		owed, e := Owed(x.w, x.pumped)
		debt, f := Repaid(x.w, x.pumped, make([]int, len(owed)))
		if e != x.want || f != x.want || e != api.OK && (owed != nil || debt != nil) {
			t.Errorf("case %d: %d, %d, want %d", i, e, f, x.want)
		}
	}
	for i, returned := range [][]int{nil, {1, 1}, {-1}, {1<<30 + 1}} {
		if debt, e := Repaid(good, []int{5}, returned); e != api.ErrWell || debt != nil {
			t.Errorf("returned %d: %d", i, e)
		}
	}
}

func random(r *rand.Rand) (api.Well, []int) {
	w := api.Well{D: 1 + r.Intn(9)}
	rest := w.D
	for range 1 + r.Intn(4) {
		k := r.Intn(rest + 1)
		w.Kernel = append(w.Kernel, k)
		rest -= k
	}
	pumped := make([]int, 1+r.Intn(5))
	for i := range pumped {
		pumped[i] = r.Intn(20)
	}
	return w, pumped
}

// P42.4 to P42.6: nothing is forgotten, later days, sums, and greater returns.
func TestLaws(t *testing.T) {
	r := rand.New(rand.NewSource(42))
	sums := func(l []int) []int {
		s := slices.Clone(l)
		for i := 1; i < len(s); i++ {
			s[i] += s[i-1]
		}
		return s
	}
	for range 1000 {
		w, pumped := random(r)
		owed, _ := Owed(w, pumped)
		total, kernel := sums(pumped), sums(w.Kernel)
		whole := sums(owed)
		if whole[len(whole)-1] != total[len(total)-1]*kernel[len(kernel)-1]/w.D || slices.Min(owed) < 0 {
			t.Fatalf("%v owes %v", w, owed)
		}
		later, _ := Owed(w, append([]int{0}, pumped...))
		if !slices.Equal(later, append([]int{0}, owed...)) {
			t.Fatal("a day later")
		}
		fewer, _ := Owed(w, pumped[:1+r.Intn(len(pumped))])
		for i := range len(fewer) - len(w.Kernel) + 1 {
			if fewer[i] != owed[i] {
				t.Fatal("later days")
			}
		}
		other, both, more := make([]int, len(pumped)), make([]int, len(pumped)), slices.Clone(pumped)
		for i := range other {
			other[i] = r.Intn(9)
			both[i] = pumped[i] + other[i]
		}
		more[r.Intn(len(more))] += r.Intn(9)
		x, _ := Owed(w, other)
		y, _ := Owed(w, both)
		z, _ := Owed(w, more)
		xs, ys, zs := sums(x), sums(y), sums(z)
		for i := range ys {
			if n := ys[i] - xs[i] - whole[i]; n < 0 || n > 1 || zs[i] < whole[i] {
				t.Fatal("two lists")
			}
		}
		returned := make([]int, len(owed))
		for i := range returned {
			returned[i] = r.Intn(5)
		}
		debt, _ := Repaid(w, pumped, returned)
		returned[r.Intn(len(returned))]++
		less, _ := Repaid(w, pumped, returned)
		none, _ := Repaid(w, pumped, owed)
		for i := range debt {
			if less[i] > debt[i] || none[i] != 0 {
				t.Fatal("debts")
			}
		}
	}
}
