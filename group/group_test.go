package group

import (
	"crypto/sha256"
	"encoding/binary"
	"math/big"
	"math/rand"
	"testing"

	"acequia/api"
)

func power(a, n int) int {
	return int(new(big.Int).Exp(big.NewInt(int64(a)), big.NewInt(int64(n)), big.NewInt(api.P)).Int64())
}

func must(t *testing.T) func(c int, e api.Errno) int {
	return func(c int, e api.Errno) int {
		t.Helper()
		if e != api.OK {
			t.Fatalf("error %d", e)
		}
		return c
	}
}

// P10.1: elements are the numbers whose power to Q is 1.
func TestValid(t *testing.T) {
	r := rand.New(rand.NewSource(10))
	l := []int{1, 2, 3, 4, 5, api.Q - 1, api.Q, api.Q + 1, api.P - 1, api.P - 2, api.P - 4}
	for range 3000 {
		l = append(l, 1+r.Intn(api.P-1))
	}
	for _, x := range l {
		if Valid(x) != (power(x, api.Q) == 1) {
			t.Errorf("Valid(%d)", x)
		}
	}
	for _, x := range []int{0, -1, api.P, api.P + 1, api.P + 4, -4, 1 << 62, -1 << 63} {
		if Valid(x) {
			t.Errorf("Valid(%d)", x)
		}
	}
}

// P10.1: products and powers, also negative ones.
func TestMulAndPow(t *testing.T) {
	ok := must(t)
	if ok(Mul(4, 4)) != 16 || ok(Pow(4, 2)) != 16 || ok(Pow(4, api.Q)) != 1 || ok(Mul(4, ok(Pow(4, -1)))) != 1 || ok(Pow(4, 0)) != 1 {
		t.Error("the examples")
	}
	for _, x := range [][2]int{{0, 1}, {1, 0}, {2, 4}, {4, 2}, {api.P, 4}, {-4, 4}} {
		if c, e := Mul(x[0], x[1]); e != api.ErrGroup || c != 0 {
			t.Errorf("Mul(%v)", x)
		}
	}
	for _, x := range []int{0, 2, api.P - 1, api.P, -1} {
		if c, e := Pow(x, 1); e != api.ErrGroup || c != 0 {
			t.Errorf("Pow(%d)", x)
		}
	}
	for _, n := range []int{1, -1, 5, api.Q - 1, -api.Q, 1<<63 - 1, -1 << 63} {
		m := int(new(big.Int).Mod(big.NewInt(int64(n)), big.NewInt(api.Q)).Int64())
		if ok(Pow(9, n)) != power(9, m) {
			t.Errorf("the power to %d", n)
		}
	}
}

// P10.2 and P10.5: numbers stand for elements, one for one.
func TestElementAndNumber(t *testing.T) {
	ok := must(t)
	if ok(Element(4)) != 4 || ok(Element(1)) != 1 || ok(Element(2)) != api.P-2 || ok(Number(api.P-2)) != 2 {
		t.Error("the examples")
	}
	for _, n := range []int{0, -1, api.Q + 1, 1 << 62} {
		if x, e := Element(n); e != api.ErrArg || x != 0 {
			t.Errorf("Element(%d)", n)
		}
	}
	for _, x := range []int{0, 2, api.P, -4} {
		if n, e := Number(x); e != api.ErrGroup || n != 0 {
			t.Errorf("Number(%d)", x)
		}
	}
	r := rand.New(rand.NewSource(2))
	for i := range 1000 {
		n := []int{1, api.Q, 1 + r.Intn(api.Q)}[min(i, 2)]
		x := ok(Element(n))
		if !Valid(x) || ok(Number(x)) != n {
			t.Errorf("the number %d", n)
		}
	}
}

// P10.3: the hash, by the standard library.
func TestHash(t *testing.T) {
	for _, s := range []string{"", "a", "b", "nonce", "sign", "c", "dd"} {
		tag := sha256.Sum256([]byte(s))
		d := sha256.Sum256(append(tag[:], s...))
		want := binary.BigEndian.Uint64(d[:]) &^ (1 << 63) % api.Q
		if n := Hash(s, []byte(s)); n != int(want) {
			t.Errorf("Hash(%q) = %d, want %d", s, n, want)
		}
	}
}

// P10.4: the laws of a group.
func TestLaws(t *testing.T) {
	ok := must(t)
	r := rand.New(rand.NewSource(3))
	for range 300 {
		a, b, c := ok(Element(1+r.Intn(api.Q))), ok(Element(1+r.Intn(api.Q))), ok(Element(1+r.Intn(api.Q)))
		m, n := r.Int()-1<<62, int(r.Uint64())
		if ok(Mul(a, b)) != ok(Mul(b, a)) || ok(Mul(a, ok(Mul(b, c)))) != ok(Mul(ok(Mul(a, b)), c)) || ok(Mul(a, 1)) != a || ok(Mul(a, ok(Pow(a, -1)))) != 1 {
			t.Fatal("products")
		}
		if ok(Mul(ok(Pow(a, m)), ok(Pow(a, n)))) != ok(Pow(a, m%api.Q+n%api.Q)) || ok(Pow(ok(Pow(a, m)), n)) != ok(Pow(a, m%api.Q*(n%api.Q))) {
			t.Fatal("powers")
		}
		x := 1 + r.Intn(api.P-1)
		if !Valid(x * x % api.P) {
			t.Fatal("a square")
		}
	}
}
