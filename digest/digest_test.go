package digest

import (
	"crypto/sha256"
	"encoding/hex"
	"testing"

	"acequia/api"
)

func numbered(n int) []api.Digest {
	l := make([]api.Digest, n)
	for i := range l {
		l[i] = Sum([]byte{byte(i), byte(i >> 8)})
	}
	return l
}

// reference is the tagged hash by the standard library.
func reference(tag string, parts ...[]byte) api.Digest {
	t := sha256.Sum256([]byte(tag))
	b := t[:]
	for _, p := range parts {
		b = append(b, p...)
	}
	return sha256.Sum256(b)
}

// P2.1: known hashes, and all lengths around the borders of blocks.
func TestSum(t *testing.T) {
	for in, want := range map[string]string{
		"":    "e3b0c44298fc1c149afbf4c8996fb92427ae41e4649b934ca495991b7852b855",
		"abc": "ba7816bf8f01cfea414140de5dae2223b00361a396177a9cb410ff61f20015ad",
	} {
		if d := Sum([]byte(in)); hex.EncodeToString(d[:]) != want {
			t.Errorf("Sum(%q) = %x", in, d)
		}
	}
	b := make([]byte, 0, 300)
	for n := range 300 {
		if Sum(b) != api.Digest(sha256.Sum256(b)) {
			t.Errorf("Sum of %d bytes", n)
		}
		b = append(b, byte(n*7))
	}
	if long := make([]byte, 1<<20); Sum(long) != api.Digest(sha256.Sum256(long)) {
		t.Error("Sum of 2^20 bytes")
	}
}

// P2.1: a tag is hashed before what follows; arguments do not change.
func TestTagged(t *testing.T) {
	if Tagged("", nil) != Sum(func() []byte { d := Sum(nil); return d[:] }()) {
		t.Error("the empty tag")
	}
	b := []byte{1, 2, 3}
	if Tagged("leaf", b) != reference("leaf", b) || b[0] != 1 || b[2] != 3 {
		t.Error("Tagged(leaf)")
	}
}

// P2.2: small trees, written out.
func TestTree(t *testing.T) {
	if Tree(nil) != reference("empty") || Tree([]api.Digest{}) != reference("empty") {
		t.Error("no elements")
	}
	l := numbered(3)
	a, b, c := reference("leaf", l[0][:]), reference("leaf", l[1][:]), reference("leaf", l[2][:])
	ab := reference("node", a[:], b[:])
	if Tree(l[:1]) != a || Tree(l[:2]) != ab || Tree(l) != reference("node", ab[:], c[:]) {
		t.Error("small trees")
	}
	if p, e := Path(l, 2); e != api.OK || len(p) != 1 || p[0] != ab {
		t.Error("the path of the last one of three")
	}
	if p, e := Path(l, 0); e != api.OK || len(p) != 2 || p[0] != b || p[1] != c {
		t.Error("the path of the first one of three")
	}
}

// P2.2: wrong indices, numbers and lengths of paths.
func TestErrors(t *testing.T) {
	l := numbered(5)
	for _, at := range []int{-1, 5, 1 << 62, -1 << 63} {
		if p, e := Path(l, at); e != api.ErrArg || p != nil {
			t.Errorf("Path at %d: %v", at, e)
		}
	}
	if _, e := Path(nil, 0); e != api.ErrArg {
		t.Error("Path of no elements")
	}
	many := make([]api.Digest, 40)
	for _, x := range []struct {
		at, n, path int
		want        api.Errno
	}{
		{0, 1, 0, api.OK}, {0, 1, 1, api.ErrArg}, {0, 2, 0, api.ErrArg}, {0, 2, 2, api.ErrArg},
		{0, 0, 0, api.ErrArg}, {0, -1, 0, api.ErrArg}, {-1, 3, 2, api.ErrArg}, {3, 3, 1, api.ErrArg},
		{4, 5, 1, api.OK}, {4, 5, 3, api.ErrArg}, {3, 5, 3, api.OK},
		{0, 1 << 40, 40, api.OK}, {0, 1<<40 + 1, 40, api.ErrArg}, {1<<40 - 1, 1 << 40, 40, api.OK}, {1 << 39, 1<<39 + 1, 1, api.OK},
	} {
		d, e := Climb(l[0], x.at, x.n, many[:x.path])
		if e != x.want || e != api.OK && d != (api.Digest{}) {
			t.Errorf("Climb(%d, %d, %d digests): %v", x.at, x.n, x.path, e)
		}
	}
}

// P2.3 and P2.4: chains, and paths of all elements of lists.
func TestChainAndClimb(t *testing.T) {
	var zero api.Digest
	if Chain(zero, zero) != reference("chain", make([]byte, 64)) {
		t.Error("the chain of zeros")
	}
	a, b := Sum([]byte{1}), Sum([]byte{2})
	if Chain(a, b) != reference("chain", a[:], b[:]) || Chain(a, b) == Chain(b, a) {
		t.Error("the order of a chain")
	}
	for n := 1; n <= 70; n++ {
		l := numbered(n)
		root := Tree(l)
		for i := range l {
			p, e := Path(l, i)
			if d, f := Climb(l[i], i, n, p); e != api.OK || f != api.OK || d != root {
				t.Fatalf("the element %d of %d", i, n)
			}
		}
		if n&(n-1) == 0 {
			more := numbered(n + 1)
			last := reference("leaf", more[n][:])
			if Tree(more) != reference("node", root[:], last[:]) {
				t.Errorf("an element after %d", n)
			}
		}
	}
}
