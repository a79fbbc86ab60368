package merkle

import (
	"bytes"
	"fmt"
	"testing"

	"acequia/api"
	"acequia/digest"
)

func numbered(n int) [][]byte {
	l := make([][]byte, n)
	for i := range l {
		l[i] = []byte(fmt.Sprint("leaf ", i))
	}
	return l
}

func node(a, b api.Digest) api.Digest { return digest.Tagged("node", append(a[:], b[:]...)) }

// P7.1: small lists, written out.
func TestRootAndProve(t *testing.T) {
	if Root(nil) != digest.Tagged("none", nil) {
		t.Error("no leaves")
	}
	l := numbered(5)
	var d [5]api.Digest
	for i := range l {
		d[i] = digest.Tagged("leaf", l[i])
	}
	ab, cd := node(d[0], d[1]), node(d[2], d[3])
	if Root(l[:1]) != d[0] || Root(l[:2]) != ab || Root(l[:3]) != node(ab, d[2]) || Root(l) != node(node(ab, cd), d[4]) {
		t.Error("small roots")
	}
	if p, e := Prove(l[:3], 2); e != api.OK || len(p) != 1 || p[0] != ab {
		t.Error("the last one of three")
	}
	if p, e := Prove(l, 1); e != api.OK || len(p) != 3 || p[0] != d[0] || p[1] != cd || p[2] != d[4] {
		t.Error("the second one of five")
	}
	if p, e := Prove(l[:1], 0); e != api.OK || len(p) != 0 {
		t.Error("one leaf")
	}
	for _, i := range []int{-1, 5, 1 << 62} {
		if p, e := Prove(l, i); e != api.ErrArg || p != nil {
			t.Errorf("Prove at %d", i)
		}
	}
	if _, e := Prove(make([][]byte, 65537), 0); e != api.ErrArg {
		t.Error("65537 leaves")
	}
	if _, e := Prove(nil, 0); e != api.ErrArg {
		t.Error("no leaves")
	}
}

// P7.2: what Climb refuses.
func TestClimbErrors(t *testing.T) {
	many := make([]api.Digest, 17)
	for _, x := range []struct {
		n, i, path int
		want       api.Errno
	}{
		{0, 0, 0, api.ErrArg}, {-1, 0, 0, api.ErrArg}, {3, 3, 2, api.ErrArg}, {3, -1, 2, api.ErrArg}, {65537, 0, 17, api.ErrArg},
		{2, 0, 0, api.ErrPath}, {2, 0, 2, api.ErrPath}, {3, 2, 2, api.ErrPath}, {3, 2, 1, api.OK}, {3, 1, 2, api.OK}, {1, 0, 1, api.ErrPath},
		{65536, 65535, 16, api.OK}, {65535, 65534, 15, api.OK}, {65535, 65534, 16, api.ErrPath},
	} {
		if d, e := Climb(x.n, x.i, nil, many[:x.path]); e != x.want || e != api.OK && d != (api.Digest{}) {
			t.Errorf("Climb(%d, %d, %d digests) = %d", x.n, x.i, x.path, e)
		}
	}
	if d, e := Climb(1, 0, []byte("a"), nil); e != api.OK || d != digest.Tagged("leaf", []byte("a")) {
		t.Error("one leaf")
	}
}

// P7.2 and P7.3: no collision is made up.
func TestCollide(t *testing.T) {
	l := numbered(6)
	p, _ := Prove(l, 4)
	q := append([]api.Digest(nil), p...)
	q[0][0]++
	for i, x := range []struct {
		n, i int
		a, b []byte
		p, q []api.Digest
	}{
		{6, 4, l[4], l[4], p, p}, {6, 4, l[4], l[3], p, p}, {6, 4, l[4], l[4], p, q}, {6, 4, l[4], l[3], p, nil}, {6, 4, l[4], l[3], nil, p}, {0, 0, nil, l[0], nil, nil},
	} {
		if a, b, ok := Collide(x.n, x.i, x.a, x.b, x.p, x.q); ok || a != nil || b != nil {
			t.Errorf("case %d", i)
		}
	}
}

// P7.3: with a hash that is weak enough for collisions, the texts of the first row with one digest are found.
func TestCollision(t *testing.T) {
	weak := func(text []byte) (d api.Digest) {
		d[0] = text[0]
		return d
	}
	left := [][]byte{{1, 1}, {2, 1}, {3, 1}, {4, 1}}
	for i, x := range []struct {
		right [][]byte
		row   int
	}{{[][]byte{{1, 2}, {2, 2}, {3, 2}, {4, 2}}, 0}, {[][]byte{{9, 2}, {2, 2}, {3, 2}, {4, 2}}, 1}, {[][]byte{{9, 2}, {8, 2}, {7, 2}, {4, 2}}, 3}} {
		a, b, ok := collision(left, x.right, weak)
		if !ok || !bytes.Equal(a, left[x.row]) || !bytes.Equal(b, x.right[x.row]) {
			t.Errorf("case %d: %v, %v, %v", i, a, b, ok)
		}
	}
	if a, b, ok := collision(left, [][]byte{{9}, {8}, {7}, {6}}, weak); ok || a != nil || b != nil {
		t.Error("no row with one digest")
	}
}

// P7.3: the texts of a way end in the root, so equal roots have an equal row. Their texts are what Collide compares.
func TestTexts(t *testing.T) {
	for n := 1; n <= 20; n++ {
		l := numbered(n)
		for i := range l {
			p, _ := Prove(l, i)
			w := texts(n, i, l[i], p)
			if digest.Sum(w[len(w)-1]) != Root(l) || len(w) != len(p)+1 || !bytes.HasSuffix(w[0], l[i]) {
				t.Fatalf("the leaf %d of %d", i, n)
			}
		}
	}
}

// P7.3 and P7.4: paths lead to the root, and the root is that of two parts.
func TestConsequences(t *testing.T) {
	for n := 1; n <= 40; n++ {
		l := numbered(n)
		root := Root(l)
		for i := range l {
			p, e := Prove(l, i)
			if d, f := Climb(n, i, l[i], p); e != api.OK || f != api.OK || d != root || len(p) > 16 {
				t.Fatalf("the leaf %d of %d", i, n)
			}
		}
		k := 1
		for 2*k < n {
			k *= 2
		}
		if n > 1 && root != node(Root(l[:k]), Root(l[k:])) {
			t.Errorf("the parts of %d", n)
		}
	}
	if p, e := Prove(make([][]byte, 65536), 65535); e != api.OK || len(p) != 16 {
		t.Error("65536 leaves")
	}
}
