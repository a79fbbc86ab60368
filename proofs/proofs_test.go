package proofs

import (
	"math/bits"
	"math/rand"
	"slices"
	"testing"

	"acequia/api"
	"acequia/digest"
)

func share(farm, litres, price, cut, salt int) api.Share {
	return api.Share{Farm: farm, Litres: litres, Price: price, Cut: cut, Salt: salt}
}

func shares(n int) (l []api.Share) {
	for i := range n {
		l = append(l, share(i, 10*i, i*i, 7, 1000+i))
	}
	return l
}

// P57.1 and P57.2: small trees, written out.
func TestTree(t *testing.T) {
	l := shares(3)
	a, b, c := leaf(l[0]), leaf(l[1]), leaf(l[2])
	text := []byte{3, 6, 2, 5, 's', 'h', 'a', 'r', 'e', 1, 2, 1, 20, 1, 2, 1, 14, 1, 210, 15}
	if b.Hash != digest.Sum(text) || b.Litres != 10 || b.Price != 1 || b.Cut != 7 {
		t.Errorf("a leaf: %v", b)
	}
	node1 := []byte{3, 9, 2, 3, 's', 'u', 'm', 2, 32}
	node1 = append(append(node1, a.Hash[:]...), 1, 0, 1, 0, 1, 14, 2, 32)
	node1 = append(append(node1, b.Hash[:]...), 1, 20, 1, 2, 1, 14)
	ab := api.Sum{Hash: digest.Sum(node1), Litres: 10, Price: 1, Cut: 14}
	if s, e := Root(l[:2]); e != api.OK || s != ab {
		t.Errorf("a node: %v, %d", s, e)
	}
	if s, e := Root(l); e != api.OK || s != node(ab, c) {
		t.Errorf("three shares: %v", s)
	}
	if p, e := Prove(l, 2); e != api.OK || !slices.Equal(p, []api.Sum{ab}) {
		t.Errorf("the last one of three: %v", p)
	}
	if p, e := Prove(l, 0); e != api.OK || !slices.Equal(p, []api.Sum{b, c}) {
		t.Errorf("the first one of three: %v", p)
	}
	if s, e := Root(l[:1]); e != api.OK || s != a {
		t.Errorf("one share: %v", s)
	}
	if p, e := Prove(l[:1], 0); e != api.OK || len(p) != 0 {
		t.Errorf("one share: %v", p)
	}
}

// P57.1 and P57.2: errors in their order.
func TestErrors(t *testing.T) {
	const most = 1 << 40
	good := share(599, most, most, most, most)
	wrong := []api.Share{share(600, 0, 0, 0, 0), share(-1, 0, 0, 0, 0), share(0, most+1, 0, 0, 0), share(0, -1, 0, 0, 0), share(0, 0, most+1, 0, 0), share(0, 0, 0, most+1, 0), share(0, 0, 0, -1, 0), share(0, 0, 0, 0, most+1), share(0, 0, 0, 0, -1)}
	for i, x := range []struct {
		l    []api.Share
		want api.Errno
	}{{nil, api.ErrLimit}, {slices.Repeat(wrong[:1], 601), api.ErrLimit}, {[]api.Share{good}, 0}, {[]api.Share{good, good}, api.ErrShare}, {[]api.Share{share(2, 0, 0, 0, 0), share(1, 0, 0, 0, 0)}, api.ErrShare}, {shares(599), 0}} {
		s, e := Root(x.l)
		p, f := Prove(x.l, 0)
		if e != x.want || f != x.want || e != api.OK && (s != api.Sum{} || p != nil) {
			t.Errorf("list %d: %d, %d, want %d", i, e, f, x.want)
		}
	}
	for i, x := range wrong {
		_, e1 := Root([]api.Share{x})
		_, e2 := Prove([]api.Share{x}, -1)
		_, e3 := Climb(1, 0, x, nil)
		if e1 != api.ErrShare || e2 != api.ErrShare || e3 != api.ErrShare || Check(leaf(x), 1, 0, x, nil) {
			t.Errorf("share %d: %d, %d, %d", i, e1, e2, e3)
		}
	}
	for _, i := range []int{-1, 3} {
		if _, e := Prove(shares(3), i); e != api.ErrArg {
			t.Errorf("Prove at %d", i)
		}
	}
	sum := api.Sum{Litres: 1 << 50, Price: 1 << 50, Cut: 1 << 50}
	for i, x := range []struct {
		count, i int
		path     []api.Sum
		want     api.Errno
	}{
		{0, 0, nil, api.ErrLimit}, {601, -1, nil, api.ErrLimit}, {1, -1, nil, api.ErrArg}, {1, 1, nil, api.ErrArg}, {1, 0, []api.Sum{{}}, api.ErrShare}, {2, 0, nil, api.ErrShare}, {2, 1, []api.Sum{sum}, 0}, {3, 2, []api.Sum{sum}, 0}, {3, 1, []api.Sum{sum}, api.ErrShare}, {600, 599, make([]api.Sum, 6), 0}, {600, 0, make([]api.Sum, 10), 0}, {2, 0, []api.Sum{{Litres: -1}}, api.ErrShare}, {2, 0, []api.Sum{{Litres: 1<<50 + 1}}, api.ErrShare}, {2, 0, []api.Sum{{Price: -1}}, api.ErrShare}, {2, 0, []api.Sum{{Cut: 1<<50 + 1}}, api.ErrShare},
	} {
		if s, e := Climb(x.count, x.i, good, x.path); e != x.want || e != api.OK && s != (api.Sum{}) {
			t.Errorf("Climb %d: %d, want %d", i, e, x.want)
		}
	}
}

// P57.2 to P57.5: every share is accepted, adds up, and has a short path.
func TestClimb(t *testing.T) {
	for n := 1; n <= 40; n++ {
		l := shares(n)
		root, _ := Root(l)
		litres := 0
		for i, x := range l {
			litres += x.Litres
			p, e := Prove(l, i)
			s, f := Climb(n, i, x, p)
			if e != api.OK || f != api.OK || s != root || !Check(root, n, i, x, p) || len(p) > bits.Len(uint(n-1)) {
				t.Fatalf("the share %d of %d", i, n)
			}
			if s.Litres < x.Litres || s.Price < x.Price || s.Cut < x.Cut {
				t.Fatal("a number that is greater than the root")
			}
			changed := x
			changed.Litres++
			other := root
			other.Price++
			if Check(root, n, i, changed, p) || Check(other, n, i, x, p) || i > 0 && Check(root, n, i-1, x, p) {
				t.Fatal("a changed share")
			}
			if a, b, ok := Collide(n, i, x, changed, p, p); ok || a != nil || b != nil {
				t.Fatal("a collision that is made up")
			}
		}
		if root.Litres != litres || root.Cut != 7*n {
			t.Fatalf("the sums of %d shares", n)
		}
	}
}

// P57.3: no collision without two ways to one root.
func TestCollide(t *testing.T) {
	l := shares(5)
	p, _ := Prove(l, 1)
	q := slices.Clone(p)
	q[0].Hash[0]++
	// Numbers that are moved from one sum to another one on the way change the texts, and so the root.
	moved := slices.Clone(p)
	moved[0].Litres, moved[1].Litres = moved[0].Litres+1, moved[1].Litres-1
	for i, x := range []struct {
		count, i int
		x, y     api.Share
		p, q     []api.Sum
	}{{5, 1, l[1], l[1], p, p}, {5, 1, l[1], l[1], p, q}, {5, 1, l[1], l[2], p, p}, {5, 1, l[1], l[1], p, moved}, {5, 1, l[1], l[1], p, nil}, {5, 1, l[1], l[1], nil, p}, {1, 0, l[1], l[1], nil, nil}, {0, 0, l[1], l[2], nil, nil}} {
		if a, b, ok := Collide(x.count, x.i, x.x, x.y, x.p, x.q); ok || a != nil || b != nil {
			t.Errorf("case %d", i)
		}
	}
}

// P57.3: of two ways whose Hashes are the same by chance, the first texts that differ, from the root down, are found.
func TestCollision(t *testing.T) {
	at := func(hash byte, text string) step {
		return step{api.Sum{Hash: api.Digest{hash}}, []byte(text)}
	}
	one := []step{at(1, "leaf"), at(2, "node"), at(3, "root")}
	for i, x := range []struct {
		other []step
		a, b  string
	}{{[]step{at(1, "x"), at(2, "y"), at(3, "z")}, "root", "z"}, {[]step{at(1, "x"), at(2, "y"), at(3, "root")}, "node", "y"}, {[]step{at(1, "x"), at(2, "node"), at(3, "root")}, "leaf", "x"}, {[]step{at(1, "x"), at(9, "y"), at(3, "root")}, "leaf", "x"}} {
		if a, b, ok := collision(one, x.other); !ok || string(a) != x.a || string(b) != x.b {
			t.Errorf("case %d: %s, %s, %v", i, a, b, ok)
		}
	}
	if a, b, ok := collision(one, one); ok || a != nil || b != nil {
		t.Error("the same way")
	}
}

// P57.3: texts that differ have different digests on all ways, down from the root.
func TestWays(t *testing.T) {
	r := rand.New(rand.NewSource(57))
	for range 200 {
		n := 1 + r.Intn(20)
		i := r.Intn(n)
		path := make([]api.Sum, len(sides(n, i)))
		for k := range path {
			path[k] = api.Sum{Litres: r.Intn(2), Price: r.Intn(2), Cut: r.Intn(2)}
		}
		x := share(1, r.Intn(2), r.Intn(2), r.Intn(2), 0)
		for at := range way(n, i, x, path) {
			if digest.Sum(at.text) != at.sum.Hash {
				t.Fatal("a text and its digest")
			}
		}
	}
}

// P57.6 and P57.7: nothing else is seen.
func TestOthers(t *testing.T) {
	l := shares(9)
	root, _ := Root(l)
	path, _ := Prove(l, 8)
	hidden := slices.Clone(l)
	hidden[3].Salt++
	other, _ := Root(hidden)
	if Check(other, 9, 8, l[8], path) || other.Litres != root.Litres {
		t.Error("another list")
	}
	again, _ := Prove(shares(9), 8)
	if !slices.Equal(path, again) || len(path) != 1 {
		t.Errorf("the path: %v", path)
	}
}
