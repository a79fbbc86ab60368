package canals

import (
	"math/rand"
	"slices"
	"testing"

	"acequia/api"
)

// district returns a district whose reaches have these Ups, and delays of 1, 2, 3 and so on.
func district(farms []int, ups ...int) api.District {
	d := api.District{Hours: 1}
	for i, up := range ups {
		d.Reaches = append(d.Reaches, api.Reach{Up: up, Delay: i%16 + 1, Seep: [2]api.Ratio{{D: 1}, {D: 1}}})
	}
	for _, r := range farms {
		d.Farms = append(d.Farms, api.Farm{Reach: r, Crop: -1})
	}
	return d
}

func random(r *rand.Rand) api.District {
	ups, farms := []int{-1}, []int{}
	for i := 1; i < 1+r.Intn(12); i++ {
		ups = append(ups, r.Intn(i))
	}
	for range r.Intn(8) {
		farms = append(farms, r.Intn(len(ups)))
	}
	return district(farms, ups...)
}

// P20.1 and P20.2: a small tree.
func TestTree(t *testing.T) {
	d := district([]int{2, 0, 2, 4}, -1, 0, 1, 0, 1)
	for i, x := range []struct {
		f     func(d api.District, reach int) ([]int, api.Errno)
		reach int
		want  []int
	}{
		{Path, 0, []int{0}}, {Path, 2, []int{0, 1, 2}}, {Path, 3, []int{0, 3}}, {Children, 0, []int{1, 3}}, {Children, 1, []int{2, 4}}, {Children, 4, nil}, {Below, 0, []int{0, 1, 2, 3, 4}}, {Below, 1, []int{1, 2, 4}}, {Below, 3, []int{3}},
		{Farms, 2, []int{0, 2}}, {Farms, 0, []int{1}}, {Farms, 1, nil},
	} {
		if l, e := x.f(d, x.reach); e != api.OK || !slices.Equal(l, x.want) {
			t.Errorf("case %d: %v, %d", i, l, e)
		}
	}
	for reach, want := range []int{1, 3, 6, 5, 8} {
		if n, e := Delay(d, reach); e != api.OK || n != want {
			t.Errorf("Delay(%d) = %d", reach, n)
		}
	}
	for _, x := range [][3]int{{2, 4, 1}, {4, 2, 1}, {2, 3, 0}, {1, 2, 1}, {2, 2, 2}, {0, 4, 0}} {
		if c, e := Common(d, x[0], x[1]); e != api.OK || c != x[2] {
			t.Errorf("Common(%d, %d) = %d", x[0], x[1], c)
		}
	}
	if l, e := Children(district(nil, -1), 0); e != api.OK || len(l) != 0 {
		t.Error("one reach")
	}
}

// P20.1 and P20.2: districts and indices that are wrong.
func TestErrors(t *testing.T) {
	for _, x := range []struct {
		d     api.District
		reach int
		want  api.Errno
	}{
		{api.District{}, 0, api.ErrDistrict}, {api.District{}, -1, api.ErrDistrict}, {api.District{Reaches: make([]api.Reach, 65)}, 0, api.ErrLimit}, {district(nil, -1, 0), -1, api.ErrArg}, {district(nil, -1, 0), 2, api.ErrArg}, {district(nil, -1, 0), 1 << 62, api.ErrArg},
	} {
		for i, f := range []func(d api.District, reach int) ([]int, api.Errno){Path, Children, Farms, Below} {
			if l, e := f(x.d, x.reach); e != x.want || l != nil {
				t.Errorf("function %d: %d, want %d", i, e, x.want)
			}
		}
		_, e1 := Delay(x.d, x.reach)
		_, e2 := Common(x.d, 0, x.reach)
		_, e3 := Common(x.d, x.reach, 0)
		if e1 != x.want || e2 != x.want || e3 != x.want {
			t.Errorf("%d, %d, %d, want %d", e1, e2, e3, x.want)
		}
	}
}

// P20.1: the greatest district fits into a set.
func TestManyReaches(t *testing.T) {
	ups := []int{-1}
	for i := range 63 {
		ups = append(ups, i)
	}
	d := district(nil, ups...)
	below, _ := Below(d, 0)
	if c, e := Common(d, 63, 62); e != api.OK || c != 62 || len(below) != 64 {
		t.Errorf("Common = %d, %d below", c, len(below))
	}
}

// P20.3 to P20.6: trees, by their definitions.
func TestConsequences(t *testing.T) {
	r := rand.New(rand.NewSource(20))
	for range 200 {
		d := random(r)
		parents, homes := 0, 0
		for i := range d.Reaches {
			path, _ := Path(d, i)
			for k := range path[1:] {
				if d.Reaches[path[k+1]].Up != path[k] {
					t.Fatal("a path leaves the tree")
				}
			}
			children, _ := Children(d, i)
			farms, _ := Farms(d, i)
			parents, homes = parents+len(children), homes+len(farms)
			for k := range d.Reaches {
				below, _ := Below(d, k)
				other, _ := Path(d, k)
				if path[0] != 0 || path[len(path)-1] != i || slices.Contains(below, i) != slices.Contains(path, k) {
					t.Fatal("below and above")
				}
				c, _ := Common(d, i, k)
				back, _ := Common(d, k, i)
				common := slices.DeleteFunc(slices.Clone(path), func(x int) bool { return !slices.Contains(other, x) })
				if c != common[len(common)-1] || back != c {
					t.Fatal("the last common reach")
				}
			}
			if up := d.Reaches[i].Up; up >= 0 {
				n, _ := Delay(d, i)
				m, _ := Delay(d, up)
				if n != m+d.Reaches[i].Delay {
					t.Fatal("delays")
				}
			}
		}
		if parents != len(d.Reaches)-1 || homes != len(d.Farms) {
			t.Fatal("parts")
		}
	}
}

// P20.6: a further reach, and a further farm.
func TestFurther(t *testing.T) {
	r := rand.New(rand.NewSource(21))
	for range 100 {
		d := random(r)
		last := len(d.Reaches)
		up := r.Intn(last)
		more := d
		more.Reaches = append(slices.Clone(d.Reaches), api.Reach{Up: up, Delay: 1, Seep: [2]api.Ratio{{D: 1}, {D: 1}}})
		more.Farms = append(slices.Clone(d.Farms), api.Farm{Reach: up, Crop: -1})
		path, _ := Path(more, last)
		for i := range d.Reaches {
			children, _ := Children(d, i)
			below, _ := Below(d, i)
			farms, _ := Farms(d, i)
			if i == up {
				children, farms = append(children, last), append(farms, len(d.Farms))
			}
			if slices.Contains(path, i) {
				below = append(below, last)
			}
			c, _ := Children(more, i)
			b, _ := Below(more, i)
			f, _ := Farms(more, i)
			p, _ := Path(d, i)
			q, _ := Path(more, i)
			if !slices.Equal(c, children) || !slices.Equal(b, below) || !slices.Equal(f, farms) || !slices.Equal(p, q) {
				t.Fatalf("the reach %d, with one more below %d", i, up)
			}
		}
	}
}
