package interval

import (
	"math/big"
	"math/rand"
	"testing"

	"acequia/api"
)

const most = 1 << 40

func span(lo, hi int) api.Range { return api.Range{Lo: lo, Hi: hi} }

// small yields all intervals of small numbers.
func small() (l []api.Range) {
	for lo := -4; lo <= 4; lo++ {
		for hi := lo; hi <= 4; hi++ {
			l = append(l, span(lo, hi))
		}
	}
	return l
}

// hull returns the narrowest interval of what f makes of the numbers of a and b.
func hull(a, b api.Range, f func(x, y int) int) api.Range {
	h := span(f(a.Lo, b.Lo), f(a.Lo, b.Lo))
	for x := a.Lo; x <= a.Hi; x++ {
		for y := b.Lo; y <= b.Hi; y++ {
			h = span(min(h.Lo, f(x, y)), max(h.Hi, f(x, y)))
		}
	}
	return h
}

// P13.1: sums, differences and products of small intervals, number by number.
func TestArithmetic(t *testing.T) {
	for _, a := range small() {
		for _, b := range small() {
			add, e1 := Add(a, b)
			sub, e2 := Sub(a, b)
			mul, e3 := Mul(a, b)
			if e1 != api.OK || e2 != api.OK || e3 != api.OK {
				t.Fatal("an error")
			}
			if add != hull(a, b, func(x, y int) int { return x + y }) || sub != hull(a, b, func(x, y int) int { return x - y }) || mul != hull(a, b, func(x, y int) int { return x * y }) {
				t.Errorf("%v, %v: %v, %v, %v", a, b, add, sub, mul)
			}
		}
	}
}

// P13.1: limits, and intervals that are not valid.
func TestLimits(t *testing.T) {
	if x, e := Mul(span(0, 0), span(-most, most)); e != api.OK || x != span(0, 0) {
		t.Errorf("0 times everything is %v", x)
	}
	for i, x := range []struct {
		f    func(a, b api.Range) (api.Range, api.Errno)
		a, b api.Range
		want api.Range
		e    api.Errno
	}{
		{Add, span(most, most), span(0, 1), span(0, 0), api.ErrLimit}, {Add, span(-most, most), span(0, 0), span(-most, most), api.OK},
		{Sub, span(0, 0), span(-most, most), span(-most, most), api.OK}, {Sub, span(-1, 0), span(0, most), span(0, 0), api.ErrLimit},
		{Mul, span(most, most), span(-1, 1), span(-most, most), api.OK}, {Mul, span(-most, most), span(-most, most), span(0, 0), api.ErrLimit},
		{Mul, span(1<<20, 1<<20), span(-1<<20, 1<<20), span(-most, most), api.OK}, {Mul, span(1<<32, 1<<32), span(1<<32, 1<<32), span(0, 0), api.ErrLimit},
		{Mul, span(1<<20, 1<<20), span(1<<20, 1<<20+1), span(0, 0), api.ErrLimit}, {Mul, span(-1<<32, 0), span(-1<<32, 0), span(0, 0), api.ErrLimit},
	} {
		if y, e := x.f(x.a, x.b); y != x.want || e != x.e {
			t.Errorf("case %d: %v, %d", i, y, e)
		}
	}
	for _, bad := range []api.Range{span(1, 0), span(-most-1, 0), span(0, most+1), span(1<<63-1, -1<<63), span(-1<<63, 1<<63-1)} {
		for _, x := range [][2]api.Range{{bad, span(0, 0)}, {span(0, 0), bad}} {
			for i, f := range []func(a, b api.Range) (api.Range, api.Errno){Add, Sub, Mul, Hull} {
				if y, e := f(x[0], x[1]); e != api.ErrInterval || y != span(0, 0) {
					t.Errorf("operation %d of %v", i, x)
				}
			}
			_, _, e1 := Meet(x[0], x[1])
			_, e2 := Inside(x[0], x[1])
			if e1 != api.ErrInterval || e2 != api.ErrInterval {
				t.Errorf("%v", x)
			}
		}
		_, e1 := Square(bad)
		_, e2 := Root(bad)
		_, e3 := Scale(bad, api.Ratio{})
		if Check(bad) != api.ErrInterval || e1 != api.ErrInterval || e2 != api.ErrInterval || e3 != api.ErrInterval {
			t.Errorf("%v", bad)
		}
	}
}

// P13.2: squares and roots.
func TestSquareAndRoot(t *testing.T) {
	for _, a := range small() {
		if x, e := Square(a); e != api.OK || x != hull(a, span(0, 0), func(x, y int) int { return x * x }) {
			t.Errorf("Square(%v) = %v", a, x)
		}
	}
	if x, e := Square(span(-1<<20, 0)); e != api.OK || x != span(0, most) {
		t.Error("Square(-2^20 to 0)")
	}
	for _, a := range []api.Range{span(0, 1<<20+1), span(-most, 0), span(1<<32, 1<<32)} {
		if x, e := Square(a); e != api.ErrLimit || x != span(0, 0) {
			t.Errorf("Square(%v) = %v", a, x)
		}
	}
	for _, x := range []struct {
		a, want api.Range
		e       api.Errno
	}{
		{span(8, 10), span(2, 4), 0}, {span(0, 2), span(0, 2), 0}, {span(0, 0), span(0, 0), 0}, {span(-1, 4), span(0, 0), api.ErrArg}, {span(9, 9), span(3, 3), 0},
		{span(most-1, most), span(1<<20-1, 1<<20), 0}, {span(1, most-1), span(1, 1<<20), 0},
	} {
		if y, e := Root(x.a); y != x.want || e != x.e {
			t.Errorf("Root(%v) = %v, %d", x.a, y, e)
		}
	}
}

// scaledBy is Scale by exact numbers.
func scaledBy(a api.Range, r api.Ratio) (api.Range, api.Errno) {
	floor := func(n, sign int64) int64 {
		p := new(big.Int).Mul(big.NewInt(sign*n), big.NewInt(int64(r.N)))
		return sign * new(big.Int).Div(p, big.NewInt(int64(r.D))).Int64()
	}
	lo, hi := int64(a.Lo), int64(a.Hi)
	if r.N < 0 {
		lo, hi = hi, lo
	}
	for _, n := range []int64{lo, hi} {
		if x := new(big.Int).Mul(big.NewInt(n), big.NewInt(int64(r.N))); x.CmpAbs(big.NewInt(0).Mul(big.NewInt(most), big.NewInt(int64(r.D)))) > 0 {
			return api.Range{}, api.ErrLimit
		}
	}
	return span(int(floor(lo, 1)), int(floor(hi, -1))), api.OK
}

// P13.2: products with ratios, rounded outwards.
func TestScale(t *testing.T) {
	if x, e := Scale(span(-1, 4), api.Ratio{N: 1, D: 3}); e != api.OK || x != span(-1, 2) {
		t.Errorf("the example: %v", x)
	}
	if _, e := Scale(span(0, 1), api.Ratio{N: 2, D: 4}); e != api.ErrRatio {
		t.Error("2/4")
	}
	ratios := []api.Ratio{{N: 0, D: 1}, {N: 1, D: 3}, {N: -2, D: 7}, {N: 1 << 30, D: 1}, {N: -1 << 30, D: 1}, {N: 1, D: 1 << 30}, {N: 1<<30 - 1, D: 1 << 30}, {N: -1 << 30, D: 1<<30 - 1}, {N: 1 << 30, D: 3}}
	g := rand.New(rand.NewSource(13))
	l := append(small(), span(-most, most), span(most, most), span(1, most-1), span(-most, -most))
	for range 300 {
		a := g.Intn(2<<g.Intn(41)) - 1<<g.Intn(40)
		b := a + g.Intn(1<<g.Intn(39))
		if Check(span(a, b)) == api.OK {
			l = append(l, span(a, b))
		}
	}
	for _, a := range l {
		for _, r := range ratios {
			want, f := scaledBy(a, r)
			if x, e := Scale(a, r); x != want || e != f {
				t.Errorf("Scale(%v, %v) = %v, %d, want %v, %d", a, r, x, e, want, f)
			}
		}
	}
}

// P13.3: common numbers, hulls and parts.
func TestSets(t *testing.T) {
	in := func(n int, a api.Range) bool { return a.Lo <= n && n <= a.Hi }
	for _, a := range small() {
		for _, b := range small() {
			m, ok, e := Meet(a, b)
			h, f := Hull(a, b)
			inside, g := Inside(a, b)
			if e != api.OK || f != api.OK || g != api.OK || !ok && m != span(0, 0) {
				t.Fatal("an error")
			}
			all := true
			for n := -4; n <= 4; n++ {
				if in(n, a) && in(n, b) != (ok && in(n, m)) {
					t.Errorf("Meet(%v, %v) = %v, %v", a, b, m, ok)
				}
				all = all && (!in(n, a) || in(n, b))
			}
			if all != inside || h != span(min(a.Lo, b.Lo), max(a.Hi, b.Hi)) {
				t.Errorf("%v, %v: %v, %v", a, b, inside, h)
			}
		}
	}
}

// P13.4 to P13.6: wider arguments have wider results; laws.
func TestLaws(t *testing.T) {
	within := func(a, b api.Range) bool { ok, _ := Inside(a, b); return ok }
	for _, a := range small() {
		square, _ := Square(a)
		product, _ := Mul(a, a)
		third, _ := Scale(a, api.Ratio{N: -1, D: 3})
		back, _ := Scale(third, api.Ratio{N: -3, D: 1})
		if !within(square, product) || !within(a, back) {
			t.Errorf("%v", a)
		}
		for _, b := range small() {
			sum, _ := Add(a, b)
			less, _ := Sub(sum, b)
			if !within(a, less) {
				t.Errorf("%v, %v", a, b)
			}
			for _, c := range small()[:20] {
				bc, _ := Add(b, c)
				left, _ := Mul(a, bc)
				ab, _ := Mul(a, b)
				ac, _ := Mul(a, c)
				right, _ := Add(ab, ac)
				wide, _ := Hull(b, c)
				other, _ := Mul(a, wide)
				if !within(left, right) || !within(ab, other) {
					t.Errorf("%v, %v, %v", a, b, c)
				}
			}
		}
	}
}

// P13.6: sums and products in any order and grouping.
func TestGrouping(t *testing.T) {
	l := small()
	for i, a := range l {
		for k, b := range l {
			sum, _ := Add(a, b)
			mus, _ := Add(b, a)
			product, _ := Mul(a, b)
			tcudorp, _ := Mul(b, a)
			c := l[(i*k+7)%len(l)]
			bc, _ := Add(b, c)
			left, _ := Add(a, bc)
			right, _ := Add(sum, c)
			bcm, _ := Mul(b, c)
			leftm, _ := Mul(a, bcm)
			rightm, _ := Mul(product, c)
			if sum != mus || product != tcudorp || left != right || leftm != rightm {
				t.Fatalf("%v, %v, %v", a, b, c)
			}
			wide, _ := Hull(a, b)
			narrow, ok, _ := Meet(a, b)
			for _, x := range [][2]api.Range{{a, wide}, {b, wide}, {narrow, a}, {narrow, b}} {
				if in, _ := Inside(x[0], x[1]); !in && (ok || x[0] != narrow) {
					t.Fatalf("%v is not inside %v", x[0], x[1])
				}
			}
		}
	}
}
