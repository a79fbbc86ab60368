package division

import (
	"math/rand"
	"slices"
	"testing"

	"acequia/api"
	"acequia/garment"
	"acequia/losses"
)

// district has the reaches 0, 1 and 2 (both below 0), and 3 below 1, which lose 2 litres of a parcel at most; farms at the reaches 0, 1, 1, 2, 3 and 0.
func district() api.District {
	d := api.District{Hours: 1}
	for _, up := range []int{-1, 0, 0, 1} {
		d.Reaches = append(d.Reaches, api.Reach{Up: up, Delay: 1, Cap: 100, Bank: 100, Evap: api.Range{Hi: 2}, Seep: [2]api.Ratio{{D: 1}, {D: 1}}})
	}
	for _, reach := range []int{0, 1, 1, 2, 3, 0} {
		d.Farms = append(d.Farms, api.Farm{Reach: reach, Crop: -1})
	}
	return d
}

func lossless(farms int) api.District {
	d := district()
	d.Reaches = d.Reaches[:1]
	d.Reaches[0].Evap = api.Range{}
	d.Farms = make([]api.Farm, farms)
	for i := range d.Farms {
		d.Farms[i].Crop = -1
	}
	return d
}

// P41.1 and P41.3: needs, shares and parts.
func TestNeedsSharesPart(t *testing.T) {
	d := district()
	d.Reaches[2].Siphon = 9
	claims := []int{1, 2, 3, 4, 5, 6}
	heads, ok, e := Needs(d, claims)
	if e != api.OK || !ok || !slices.Equal(heads, []int{32, 14, 9, 7}) {
		t.Errorf("Needs = %v, %v, %d", heads, ok, e)
	}
	for reach, want := range [][]int{{1, 6, 14, 9}, {2, 3, 7}, {4}, {5}} {
		if l, e := Shares(d, claims, reach); e != api.OK || !slices.Equal(l, want) {
			t.Errorf("Shares(%d) = %v", reach, l)
		}
	}
	for farm, want := range [][2]int{{0, 0}, {1, 0}, {1, 1}, {2, 0}, {3, 0}, {0, 1}} {
		if reach, index, e := Part(d, farm); e != api.OK || [2]int{reach, index} != want {
			t.Errorf("Part(%d) = %d, %d", farm, reach, index)
		}
	}
	if heads, ok, e := Needs(d, make([]int, 6)); e != api.OK || !ok || !slices.Equal(heads, make([]int, 4)) {
		t.Errorf("no claims: %v", heads)
	}
	if heads, ok, e := Needs(lossless(2), []int{6, 4}); e != api.OK || !ok || !slices.Equal(heads, []int{10}) {
		t.Errorf("the example: %v", heads)
	}
	if heads, ok, e := Needs(lossless(0), nil); e != api.OK || !ok || !slices.Equal(heads, []int{0}) {
		t.Errorf("no farms: %v", heads)
	}
}

// P41.1 to P41.3: errors in their order.
func TestErrors(t *testing.T) {
	d := district()
	all := district()
	all.Reaches[3].Seep[1] = api.Ratio{N: 1, D: 1}
	for i, x := range []struct {
		d      api.District
		claims []int
		want   api.Errno
		ok     bool
	}{
		{api.District{}, []int{-1}, api.ErrDistrict, false}, {d, []int{-1}, api.ErrDivide, false}, {d, make([]int, 5), api.ErrDivide, false}, {d, []int{0, 0, 0, 0, 0, -1}, api.ErrDivide, false}, {d, []int{1<<30 + 1, 0, 0, 0, 0, 0}, api.ErrDivide, false},
		{d, []int{1 << 30, 0, 0, 0, 0, 0}, api.OK, false}, {d, []int{1 << 29, 0, 0, 0, 0, 1 << 29}, api.OK, false}, {all, []int{0, 0, 0, 0, 1, 0}, api.OK, false}, {d, make([]int, 6), api.OK, true},
	} {
		heads, ok, e := Needs(x.d, x.claims)
		c, f := Divide(x.d, x.claims, -1)
		_, g := Shares(x.d, x.claims, -1)
		want := x.want
		if want == api.OK {
			want = map[bool]api.Errno{true: api.ErrArg, false: api.ErrDivide}[x.ok]
		}
		if e != x.want || ok != x.ok || f != want || g != want || !ok && heads != nil || c.Heads != nil {
			t.Errorf("case %d: %d, %v, %d, %d", i, e, ok, f, g)
		}
	}
	if _, e := Divide(d, make([]int, 6), 1<<40+1); e != api.ErrArg {
		t.Error("the estate")
	}
	if _, e := Shares(d, make([]int, 6), 4); e != api.ErrArg {
		t.Error("the reach")
	}
	for _, farm := range []int{-1, 6} {
		if _, _, e := Part(d, farm); e != api.ErrArg {
			t.Errorf("the farm %d", farm)
		}
	}
	if _, _, e := Part(api.District{}, -1); e != api.ErrDistrict {
		t.Error("the zero district")
	}
}

// P41.2: small divisions.
func TestDivide(t *testing.T) {
	if c, e := Divide(lossless(2), []int{6, 4}, 5); e != api.OK || !slices.Equal(c.Awards, []int{3, 2}) || !slices.Equal(c.Heads, []int{5}) || c.Marks[0] != (api.Mark{Level: 3, Claim: 6}) {
		t.Errorf("the example: %v", c)
	}
	if c, _ := Divide(lossless(1), []int{7}, 9); !slices.Equal(c.Awards, []int{7}) {
		t.Errorf("more than enough: %v", c)
	}
	d := district()
	d.Reaches[2].Siphon = 9
	claims := []int{1, 2, 3, 4, 5, 6}
	if c, _ := Divide(d, claims, 1<<40); !slices.Equal(c.Awards, claims) || !slices.Equal(c.Heads, []int{32, 14, 9, 7}) {
		t.Errorf("more than enough: %v", c)
	}
	c, _ := Divide(d, claims, 22)
	parts, _ := garment.Award(20, []int{1, 6, 14, 9})
	if c.Awards[0] != parts[0] || c.Awards[5] != parts[1] || c.Heads[1] != parts[2] || parts[3] >= 9 || c.Heads[2] != 0 || c.Awards[3] != 0 {
		t.Errorf("a siphon: %v, %v", c, parts)
	}
	d.Reaches[0].Siphon = 50
	if c, _ := Divide(d, claims, 49); !slices.Equal(c.Awards, make([]int, 6)) || !slices.Equal(c.Heads, make([]int, 4)) || c.Marks[0] != (api.Mark{}) {
		t.Errorf("less than the first siphon: %v", c)
	}
}

func random(r *rand.Rand) (api.District, []int) {
	d := district()
	for i := range d.Reaches {
		d.Reaches[i].Seep[1] = []api.Ratio{{D: 1}, {N: 1, D: 10}, {N: 1, D: 2}}[r.Intn(3)]
		if r.Intn(3) == 0 {
			d.Reaches[i].Siphon = r.Intn(9)
		}
	}
	claims := make([]int, len(d.Farms))
	for i := range claims {
		claims[i] = r.Intn(12)
	}
	return d, claims
}

// P41.4 to P41.7: consistent, met, shown to each, and greater estates.
func TestLaws(t *testing.T) {
	r := rand.New(rand.NewSource(41))
	for range 500 {
		d, claims := random(r)
		heads, ok, _ := Needs(d, claims)
		if !ok {
			t.Fatal("no needs")
		}
		estate := r.Intn(heads[0] + 3)
		c, e := Divide(d, claims, estate)
		more, _ := Divide(d, claims, estate+1)
		if e != api.OK || estate >= heads[0] && !slices.Equal(c.Awards, claims) {
			t.Fatalf("%d of %d: %v", estate, heads[0], c)
		}
		for i, n := range c.Awards {
			reach, index, _ := Part(d, i)
			own, _ := garment.Own(c.Marks[reach], index, claims[i])
			if n > claims[i] || more.Awards[i] < n || own != n {
				t.Fatalf("the farm %d of %v", i, c)
			}
		}
		for reach := range d.Reaches {
			checkReach(t, r, d, claims, c, reach)
		}
	}
}

// checkReach lets some farms of a reach share what they have together.
func checkReach(t *testing.T, r *rand.Rand, d api.District, claims []int, c api.Cut, reach int) {
	t.Helper()
	var some, parts []int
	drawn, total := 0, 0
	for i, f := range d.Farms {
		if f.Reach == reach {
			drawn += c.Awards[i]
			if r.Intn(2) == 0 {
				some, parts = append(some, claims[i]), append(parts, c.Awards[i])
				total += c.Awards[i]
			}
		}
	}
	for i, x := range d.Reaches {
		if x.Up == reach {
			drawn += c.Heads[i]
		}
	}
	again, _ := garment.Award(total, some)
	if w, _ := losses.Worst(d.Reaches[reach], c.Heads[reach]); drawn > w || !slices.Equal(again, parts) {
		t.Fatalf("the reach %d: %d of %d, %v, %v", reach, drawn, w, again, parts)
	}
}

// P41.4: any parts of a reach share what they have together, if no reach has a siphon. P41.7: claims elsewhere matter only through needs.
func TestParts(t *testing.T) {
	r := rand.New(rand.NewSource(42))
	for range 500 {
		d, claims := random(r)
		for i := range d.Reaches {
			d.Reaches[i].Siphon = 0
		}
		heads, _, _ := Needs(d, claims)
		c, _ := Divide(d, claims, r.Intn(heads[0]+1))
		for reach := range d.Reaches {
			all, _ := Shares(d, claims, reach)
			var got []int
			for i, f := range d.Farms {
				if f.Reach == reach {
					got = append(got, c.Awards[i])
				}
			}
			for i, x := range d.Reaches {
				if x.Up == reach {
					got = append(got, c.Heads[i])
				}
			}
			var some, parts []int
			total := 0
			for i, n := range got {
				if r.Intn(2) == 0 {
					some, parts = append(some, all[i]), append(parts, n)
					total += n
				}
			}
			if again, _ := garment.Award(total, some); !slices.Equal(again, parts) {
				t.Fatalf("%d of %v: %v, %v", total, some, again, parts)
			}
		}
		swapped := slices.Clone(claims)
		swapped[1], swapped[2] = swapped[2], swapped[1]
		estate := r.Intn(heads[0] + 1)
		a, _ := Divide(d, claims, estate)
		b, _ := Divide(d, swapped, estate)
		for _, farm := range []int{0, 3, 4, 5} {
			if a.Awards[farm] != b.Awards[farm] {
				t.Fatalf("the farm %d notices who claims elsewhere", farm)
			}
		}
	}
}
