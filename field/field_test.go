package field

import (
	"math/big"
	"math/rand"
	"testing"

	"acequia/api"
)

const (
	least = -1 << 63
	most  = 1<<63 - 1
)

func bigMod(x *big.Int) int { return int(new(big.Int).Mod(x, big.NewInt(api.Q)).Int64()) }

func numbers(r *rand.Rand, n int) []int {
	l := []int{0, 1, -1, api.Q, api.Q - 1, -api.Q, least, most}
	for range n {
		l = append(l, int(r.Uint64()))
	}
	return l
}

// P9.1: all integers stand for numbers of the field.
func TestArithmetic(t *testing.T) {
	if Mod(-1) != api.Q-1 || Mul(-1, -1) != 1 || Mod(api.Q) != 0 {
		t.Error("the example")
	}
	l := numbers(rand.New(rand.NewSource(9)), 30)
	for _, a := range l {
		x := big.NewInt(int64(a))
		if Mod(a) != bigMod(x) {
			t.Errorf("Mod(%d)", a)
		}
		for _, b := range l {
			y := big.NewInt(int64(b))
			if Add(a, b) != bigMod(new(big.Int).Add(x, y)) || Mul(a, b) != bigMod(new(big.Int).Mul(x, y)) {
				t.Errorf("%d and %d", a, b)
			}
		}
		inverse, e := Inverse(a)
		if (e == api.ErrField) != (Mod(a) == 0) || e == api.OK && Mul(a, inverse) != 1 || e != api.OK && inverse != 0 || inverse < 0 || inverse >= api.Q {
			t.Errorf("Inverse(%d) = %d, %d", a, inverse, e)
		}
	}
	if x, e := Inverse(2); e != api.OK || x != 536870895 {
		t.Error("Inverse(2)")
	}
}

// P9.2: values of polynomials, and of those through points.
func TestValueAndAt(t *testing.T) {
	if Value(nil, 7) != 0 || Value([]int{1, 2, 3}, 10) != 321 || Value([]int{-1}, least) != api.Q-1 {
		t.Error("Value")
	}
	for _, x := range []struct {
		l    []api.Point
		at   int
		y    int
		want api.Errno
	}{
		{nil, 7, 0, api.OK},
		{[]api.Point{{X: 1, Y: 3}, {X: 2, Y: 5}}, 0, 1, api.OK},
		{[]api.Point{{X: 1, Y: 3}, {X: 2 - api.Q, Y: 5}}, -1, api.Q - 1, api.OK},
		{[]api.Point{{X: 9, Y: -2}}, 100, api.Q - 2, api.OK},
		{[]api.Point{{X: 1, Y: 5}, {X: 1, Y: 5}}, 0, 0, api.ErrField},
		{[]api.Point{{X: 1, Y: 5}, {X: 1 + api.Q, Y: 6}}, 0, 0, api.ErrField},
		{make([]api.Point, 65), 0, 0, api.ErrLimit},
		{make([]api.Point, 64), 0, 0, api.ErrField},
	} {
		if y, e := At(x.l, x.at); y != x.y || e != x.want {
			t.Errorf("At(%v, %d) = %d, %d", x.l, x.at, y, e)
		}
	}
}

// P9.3: the laws of a field.
func TestLaws(t *testing.T) {
	l := numbers(rand.New(rand.NewSource(10)), 8)
	for _, a := range l {
		for _, b := range l {
			if Add(a, b) != Add(b, a) || Mul(a, b) != Mul(b, a) || (Mul(a, b) == 0) != (Mod(a) == 0 || Mod(b) == 0) {
				t.Errorf("%d, %d", a, b)
			}
			for _, c := range l {
				if Add(a, Add(b, c)) != Add(Add(a, b), c) || Mul(a, Mul(b, c)) != Mul(Mul(a, b), c) || Mul(a, Add(b, c)) != Add(Mul(a, b), Mul(a, c)) {
					t.Errorf("%d, %d, %d", a, b, c)
				}
			}
		}
	}
}

// P9.4 and P9.5: enough points determine a polynomial, in any order.
func TestPoints(t *testing.T) {
	r := rand.New(rand.NewSource(11))
	for n := range api.MaxShares {
		poly, other, both := make([]int, n), make([]int, n), make([]int, n)
		for i := range poly {
			poly[i], other[i] = int(r.Uint64()), r.Int()
			both[i] = Add(poly[i], other[i])
		}
		points := make([]api.Point, 0, n+1)
		for i := range n + 1 {
			x := i*i*1000003 - 7
			points = append(points, api.Point{X: x, Y: Value(poly, x)})
		}
		at := r.Int()
		for _, l := range [][]api.Point{points[:n], points} {
			r.Shuffle(len(l), func(i, k int) { l[i], l[k] = l[k], l[i] })
			if y, e := At(l, at); e != api.OK || y != Value(poly, at) {
				t.Fatalf("%d points: %d", len(l), e)
			}
			for _, p := range l {
				if y, _ := At(l, p.X); y != p.Y {
					t.Fatalf("at a point of %d", len(l))
				}
			}
		}
		if Value(both, at) != Add(Value(poly, at), Value(other, at)) {
			t.Fatal("the value of a sum")
		}
	}
}
