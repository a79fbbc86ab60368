package codec

import (
	"bytes"
	"math/rand"
	"testing"

	"acequia/api"
)

func num(n int) api.Value           { return api.Value{Kind: api.IntV, N: n} }
func text(s string) api.Value       { return api.Value{Kind: api.TextV, S: s} }
func list(l ...api.Value) api.Value { return api.Value{Kind: api.ListV, L: l} }

func nested(n int) api.Value {
	v := list()
	for range n - 1 {
		v = list(v)
	}
	return v
}

// random returns a well-formed value that is at most deep levels deep.
func random(r *rand.Rand, deep int) api.Value {
	switch k := r.Intn(3); {
	case k == 0 || deep == 0 && k == 2:
		return num(int(r.Uint64() >> r.Intn(64)))
	case k == 1:
		return text(string(make([]byte, r.Intn(200))))
	}
	v := list()
	for range r.Intn(5) {
		v.L = append(v.L, random(r, deep-1))
	}
	return v
}

// P1.1: the table of the chapter, byte by byte.
func TestEncode(t *testing.T) {
	nines := bytes.Repeat([]byte{255}, 9)
	for _, x := range []struct {
		v    api.Value
		want []byte
	}{
		{num(0), []byte{1, 0}},
		{num(-3), []byte{1, 5}},
		{num(100), []byte{1, 200, 1}},
		{num(8191), []byte{1, 254, 127}},
		{num(8192), []byte{1, 128, 128, 1}},
		{num(-1 << 63), append(append([]byte{1}, nines...), 1)},
		{text("ab"), []byte{2, 2, 97, 98}},
		{text("\x00\xff"), []byte{2, 2, 0, 255}},
		{list(), []byte{3, 0}},
		{list(num(100), text("ab")), []byte{3, 2, 1, 200, 1, 2, 2, 97, 98}},
		{nested(16), append(bytes.Repeat([]byte{3, 1}, 15), 3, 0)},
	} {
		b, e := Encode(x.v)
		if e != api.OK || !bytes.Equal(b, x.want) {
			t.Errorf("Encode(%v) = %v, %v", x.v, b, e)
		}
		if n, e := Size(x.v); e != api.OK || n != len(x.want) {
			t.Errorf("Size(%v) = %v, %v", x.v, n, e)
		}
	}
}

// P1.1: values that are not well-formed come before those that are too deep.
func TestCheck(t *testing.T) {
	for _, x := range []struct {
		v    api.Value
		want api.Errno
	}{
		{api.Value{}, api.ErrArg},
		{api.Value{Kind: 4}, api.ErrArg},
		{api.Value{Kind: -1 << 63}, api.ErrArg},
		{api.Value{Kind: api.IntV, S: "a"}, api.ErrArg},
		{api.Value{Kind: api.IntV, L: []api.Value{num(1)}}, api.ErrArg},
		{api.Value{Kind: api.TextV, N: 1}, api.ErrArg},
		{api.Value{Kind: api.TextV, L: []api.Value{num(1)}}, api.ErrArg},
		{api.Value{Kind: api.ListV, N: 1}, api.ErrArg},
		{api.Value{Kind: api.ListV, S: "a"}, api.ErrArg},
		{list(num(1), list(api.Value{})), api.ErrArg},
		{nested(16), api.OK},
		{nested(17), api.ErrLimit},
		{nested(60000), api.ErrLimit},
		{list(nested(20), api.Value{}), api.ErrArg},
		{list(nested(2), num(0), nested(15)), api.OK},
	} {
		if e := Check(x.v); e != x.want {
			t.Errorf("Check = %v, want %v", e, x.want)
		}
		b, e := Encode(x.v)
		n, f := Size(x.v)
		if e != x.want || f != x.want || x.want != api.OK && (b != nil || n != 0) {
			t.Errorf("Encode: %v %v, Size: %v %v, want %v", b, e, n, f, x.want)
		}
	}
}

// P1.2: bytes that no value is encoded as.
func TestDecodeWrong(t *testing.T) {
	nines := bytes.Repeat([]byte{255}, 9)
	for _, b := range [][]byte{
		nil, {0}, {4, 0}, {255, 0}, {1}, {1, 128}, {1, 128, 0}, {1, 5, 0}, {2, 3, 97},
		append(append([]byte{1}, nines...), 2),
		append(append([]byte{1}, nines...), 128, 1),
		append(append([]byte{2}, nines...), 1),
		append(append([]byte{3}, nines...), 1),
		{3, 1}, {3, 2, 1, 0}, {3, 0, 3, 0}, {3, 1, 0}, {2, 129, 0, 97},
		append(bytes.Repeat([]byte{3, 1}, 16), 3, 0),
		append(bytes.Repeat([]byte{3, 1}, 100000), 3, 0),
	} {
		if v, e := Decode(b); e != api.ErrCode || !Same(v, api.Value{}) {
			t.Errorf("Decode(%v) = %v, %v", b[:min(len(b), 20)], v, e)
		}
	}
}

// P1.2: whatever Decode accepts is what Encode writes.
func TestDecodeAll(t *testing.T) {
	for n := range 1 << 16 {
		for _, b := range [][]byte{{byte(n >> 8), byte(n)}, {3, 1, byte(n >> 8), byte(n)}, {1, byte(n >> 8), byte(n)}} {
			v, e := Decode(b)
			if e != api.OK {
				continue
			}
			if c, e := Encode(v); e != api.OK || !bytes.Equal(b, c) {
				t.Fatalf("%v is read as %v and written as %v", b, v, c)
			}
		}
	}
}

// P1.3: values are compared in all fields, well-formed or not.
func TestSame(t *testing.T) {
	l := []api.Value{{}, {N: 1}, num(0), num(1), text(""), text("a"), list(), list(num(1)), list(num(1), num(1)), list(list(num(1))), {Kind: 9, L: []api.Value{{}}}}
	for i, x := range l {
		for k, y := range l {
			if Same(x, y) != (i == k) {
				t.Errorf("Same(%v, %v)", x, y)
			}
		}
	}
	if !Same(list(), api.Value{Kind: api.ListV, L: []api.Value{}}) {
		t.Error("nil and empty slices differ")
	}
}

// P1.4: there and back, sizes, and no encoding begins another one.
func TestConsequences(t *testing.T) {
	r := rand.New(rand.NewSource(1))
	for range 3000 {
		v := random(r, 5)
		b, e := Encode(v)
		if e != api.OK {
			t.Fatal(e)
		}
		if n, _ := Size(v); n != len(b) {
			t.Fatalf("Size %d of %d bytes", n, len(b))
		}
		if w, e := Decode(b); e != api.OK || !Same(v, w) {
			t.Fatalf("%v became %v", v, w)
		}
		for n := range b {
			if _, e := Decode(b[:n]); e != api.ErrCode {
				t.Fatalf("a beginning of %v is read", b)
			}
		}
		if v.Kind == api.ListV {
			checkListSize(t, v)
		}
	}
}

func checkListSize(t *testing.T, v api.Value) {
	zeros := list(make([]api.Value, len(v.L))...)
	sum := 0
	for i := range v.L {
		zeros.L[i] = num(0)
		n, _ := Size(v.L[i])
		sum += n - 2
	}
	n, _ := Size(zeros)
	if got, _ := Size(v); got != n+sum {
		t.Fatalf("size %d, want %d", got, n+sum)
	}
}
