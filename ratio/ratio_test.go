package ratio

import (
	"math/big"
	"math/rand"
	"testing"

	"acequia/api"
)

const most = 1 << 30

func r(n, d int) api.Ratio { return api.Ratio{N: n, D: d} }

func exactly(a api.Ratio) *big.Rat { return big.NewRat(int64(a.N), int64(a.D)) }

// wanted returns the valid ratio of a number.
func wanted(x *big.Rat) (api.Ratio, api.Errno) {
	bound := big.NewInt(most)
	if x.Denom().Cmp(bound) > 0 || x.Num().CmpAbs(bound) > 0 {
		return api.Ratio{}, api.ErrLimit
	}
	return r(int(x.Num().Int64()), int(x.Denom().Int64())), api.OK
}

// samples returns valid ratios, small ones and great ones.
func samples(n int) []api.Ratio {
	g := rand.New(rand.NewSource(12))
	l := []api.Ratio{r(0, 1), r(1, 1), r(-1, 1), r(most, 1), r(-most, 1), r(1, most), r(-1, most), r(most-1, most), r(1, most-1), r(1, 2), r(-1, 3)}
	for range n {
		bits := g.Intn(31)
		x, e := Make(g.Intn(2<<bits)-1<<bits, 1+g.Intn(1<<g.Intn(31)))
		if e == api.OK {
			l = append(l, x)
		}
	}
	return l
}

// P12.1: valid ratios, and how they are made.
func TestCheckAndMake(t *testing.T) {
	for _, x := range []api.Ratio{{}, r(2, 4), r(1, 0), r(1, -1), r(0, 2), r(most+1, 1), r(-most-1, 1), r(1, most+1), r(-1<<63, 1), r(1, -1<<63)} {
		if Check(x) != api.ErrRatio {
			t.Errorf("Check(%v)", x)
		}
	}
	for _, x := range samples(100) {
		if Check(x) != api.OK {
			t.Errorf("Check(%v)", x)
		}
	}
	for _, x := range []struct {
		n, d int
		want api.Ratio
		e    api.Errno
	}{
		{6, -4, r(-3, 2), 0}, {1, 0, r(0, 0), api.ErrRatio}, {0, 0, r(0, 0), api.ErrRatio}, {1 << 31, 2, r(most, 1), 0}, {1, most + 1, r(0, 0), api.ErrLimit}, {most + 1, 1, r(0, 0), api.ErrLimit},
		{0, -7, r(0, 1), 0}, {-1 << 63, -1 << 63, r(1, 1), 0}, {-1 << 63, 1 << 62, r(-2, 1), 0}, {1 << 62, -1 << 63, r(-1, 2), 0}, {1<<63 - 1, 1, r(0, 0), api.ErrLimit}, {-1 << 63, -1 << 33, r(most, 1), 0},
	} {
		if y, e := Make(x.n, x.d); y != x.want || e != x.e {
			t.Errorf("Make(%d, %d) = %v, %d", x.n, x.d, y, e)
		}
	}
}

// P12.2: every operation, compared with exact numbers.
func TestOperations(t *testing.T) {
	l := samples(120)
	for _, a := range l {
		for _, b := range l {
			x, y := exactly(a), exactly(b)
			check := func(name string, got api.Ratio, e api.Errno, want *big.Rat) {
				if z, f := wanted(want); got != z || e != f {
					t.Errorf("%s of %v and %v is %v, %d", name, a, b, got, e)
				}
			}
			z, e := Add(a, b)
			check("Add", z, e, new(big.Rat).Add(x, y))
			z, e = Sub(a, b)
			check("Sub", z, e, new(big.Rat).Sub(x, y))
			z, e = Mul(a, b)
			check("Mul", z, e, new(big.Rat).Mul(x, y))
			z, e = Div(a, b)
			if b.N != 0 {
				check("Div", z, e, new(big.Rat).Quo(x, y))
			} else if e != api.ErrRatio || z != (api.Ratio{}) {
				t.Errorf("%v by 0: %v, %d", a, z, e)
			}
			if c, e := Cmp(a, b); e != api.OK || c != x.Cmp(y) {
				t.Errorf("Cmp(%v, %v)", a, b)
			}
		}
	}
}

// P12.2 and P12.3: no operation takes what is not valid.
func TestInvalid(t *testing.T) {
	for _, bad := range []api.Ratio{{}, r(2, 4), r(-1<<63, 1), r(1, 0)} {
		for _, x := range [][2]api.Ratio{{bad, r(1, 1)}, {r(0, 1), bad}, {bad, bad}} {
			for i, f := range []func(a, b api.Ratio) (api.Ratio, api.Errno){Add, Sub, Mul, Div, Between} {
				if y, e := f(x[0], x[1]); e != api.ErrRatio || y != (api.Ratio{}) {
					t.Errorf("operation %d of %v: %d", i, x, e)
				}
			}
			if _, e := Cmp(x[0], x[1]); e != api.ErrRatio {
				t.Errorf("Cmp of %v", x)
			}
		}
		if _, _, e := Times(bad, 1<<40); e != api.ErrRatio {
			t.Errorf("Times of %v", bad)
		}
	}
}

// P12.3 and P12.6: the integers next to a product.
func TestTimes(t *testing.T) {
	if lo, hi, e := Times(r(7, 2), 3); lo != 10 || hi != 11 || e != api.OK {
		t.Error("the example")
	}
	for _, n := range []int{most + 1, -most - 1, -1 << 63} {
		if lo, hi, e := Times(r(1, 1), n); e != api.ErrArg || lo != 0 || hi != 0 {
			t.Errorf("Times %d", n)
		}
	}
	for _, a := range samples(100) {
		for _, n := range []int{0, 1, -1, 7, -10, most, -most, 999999937} {
			lo, hi, e := Times(a, n)
			whole := a.N*n%a.D == 0
			if e != api.OK || lo*a.D > a.N*n || hi*a.D < a.N*n || whole != (lo == hi) || !whole && hi != lo+1 {
				t.Errorf("Times(%v, %d) = %d, %d", a, n, lo, hi)
			}
			if l, h, _ := Times(r(-a.N, a.D), n); l != -hi || h != -lo {
				t.Errorf("Times(-%v, %d)", a, n)
			}
		}
	}
}

// slowBetween looks for the simplest number, denominator by denominator.
func slowBetween(a, b api.Ratio) api.Ratio {
	for d := 1; ; d++ {
		for n := 0; n <= 400; n++ {
			for _, m := range []int{n, -n} {
				if a.N*d < m*a.D && m*b.D < b.N*d {
					return r(m, d)
				}
			}
		}
	}
}

// P12.3 and P12.5: the simplest number.
func TestBetween(t *testing.T) {
	for _, x := range []struct {
		a, b, want api.Ratio
		e          api.Errno
	}{
		{r(1, 3), r(1, 2), r(2, 5), 0}, {r(-1, 2), r(1, 3), r(0, 1), 0}, {r(2, 1), r(5, 1), r(3, 1), 0}, {r(-5, 1), r(-2, 1), r(-3, 1), 0},
		{r(0, 1), r(1, most), api.Ratio{}, api.ErrLimit}, {r(1, most), r(1, most-1), api.Ratio{}, api.ErrLimit}, {r(most-1, 1), r(most, 1), r(0, 0), api.ErrLimit},
		{r(0, 1), r(1, 1), r(1, 2), 0}, {r(-1, 1), r(0, 1), r(-1, 2), 0}, {r(1, 2), r(1, 2), r(0, 0), api.ErrArg}, {r(1, 2), r(1, 3), r(0, 0), api.ErrArg},
	} {
		if y, e := Between(x.a, x.b); y != x.want || e != x.e {
			t.Errorf("Between(%v, %v) = %v, %d", x.a, x.b, y, e)
		}
	}
	var l []api.Ratio
	for n := -40; n <= 40; n++ {
		for d := 1; d <= 13; d++ {
			if x := r(n, d); Check(x) == api.OK {
				l = append(l, x)
			}
		}
	}
	for i, a := range l {
		for k, b := range l {
			if a.N*b.D < b.N*a.D && (i+k)%7 == 0 {
				if y, e := Between(a, b); e != api.OK || y != slowBetween(a, b) {
					t.Fatalf("Between(%v, %v) = %v", a, b, y)
				}
			}
		}
	}
}

// P12.5: a limit means that no valid ratio lies between.
func TestBetweenGreat(t *testing.T) {
	l := samples(200)
	for _, a := range l {
		for _, b := range l {
			y, e := Between(a, b)
			switch c, _ := Cmp(a, b); {
			case c >= 0:
				if e != api.ErrArg {
					t.Fatalf("Between(%v, %v): %d", a, b, e)
				}
			case e == api.OK:
				left, _ := Cmp(a, y)
				right, _ := Cmp(y, b)
				if left >= 0 || right >= 0 {
					t.Fatalf("Between(%v, %v) = %v", a, b, y)
				}
			default:
				for _, c := range l {
					left, _ := Cmp(a, c)
					right, _ := Cmp(c, b)
					if left < 0 && right < 0 {
						t.Fatalf("Between(%v, %v) misses %v", a, b, c)
					}
				}
			}
		}
	}
}

// P12.4 and P12.6: laws, and common factors.
func TestLaws(t *testing.T) {
	for _, a := range samples(60) {
		for _, b := range samples(60) {
			if s, e := Add(a, b); e == api.OK {
				if back, e := Sub(s, b); e != api.OK || back != a {
					t.Fatalf("%v + %v - %v", a, b, b)
				}
			}
			if p, e := Mul(a, b); e == api.OK && b.N != 0 {
				if back, e := Div(p, b); e != api.OK || back != a {
					t.Fatalf("%v * %v / %v", a, b, b)
				}
			}
		}
		for _, k := range []int{1, -1, 2, -3, 1 << 30} {
			if y, e := Make(k*a.N, k*a.D); e != api.OK || y != a {
				t.Fatalf("Make(%d, %d)", k*a.N, k*a.D)
			}
		}
	}
}

// P12.4: order, grouping, products of sums, and comparisons.
func TestOrderAndGrouping(t *testing.T) {
	l := samples(25)
	ok := func(x api.Ratio, e api.Errno) (api.Ratio, bool) { return x, e == api.OK }
	for _, a := range l {
		for _, b := range l {
			sum, e1 := Add(a, b)
			mus, e2 := Add(b, a)
			product, e3 := Mul(a, b)
			tcudorp, e4 := Mul(b, a)
			if sum != mus || e1 != e2 || product != tcudorp || e3 != e4 {
				t.Fatalf("%v and %v", a, b)
			}
			order, _ := Cmp(a, b)
			if back, _ := Cmp(b, a); back != -order {
				t.Fatalf("the order of %v and %v", a, b)
			}
			for _, c := range l {
				bc, ok1 := ok(Add(b, c))
				left, ok2 := ok(Add(a, bc))
				ac, ok3 := ok(Add(a, c))
				right, ok4 := ok(Add(ac, b))
				if ok1 && ok2 && ok3 && ok4 && left != right {
					t.Fatalf("%v + %v + %v", a, b, c)
				}
				x, ok5 := ok(Mul(a, c))
				y, ok6 := ok(Mul(b, c))
				z, ok7 := ok(Mul(sum, c))
				xy, ok8 := ok(Add(x, y))
				if e1 == api.OK && ok5 && ok6 && ok7 && ok8 && z != xy {
					t.Fatalf("(%v + %v) * %v", a, b, c)
				}
				if n, _ := Cmp(ac, bc); ok1 && ok3 && n != order {
					t.Fatalf("%v added to %v and %v", c, a, b)
				}
				if n, _ := Cmp(x, y); ok5 && ok6 && c.N > 0 && n != order {
					t.Fatalf("%v times %v and %v", c, a, b)
				}
			}
		}
	}
}
