package chain

import (
	"fmt"
	"reflect"
	"testing"

	"acequia/api"
	"acequia/digest"
)

func build(t *testing.T, node int, data ...string) []api.Link {
	t.Helper()
	var l []api.Link
	for _, s := range data {
		x, e := Add(l, node, []byte(s))
		if e != api.OK {
			t.Fatalf("Add: %d", e)
		}
		l = x
	}
	return l
}

func none() api.Digest { return digest.Tagged("none", nil) }

// P8.1: heads, written out, and valid chains.
func TestHeadAndCheck(t *testing.T) {
	if Head(nil) != none() || Check(nil) != api.OK {
		t.Error("no links")
	}
	x := api.Link{Node: 3, No: -1, Prev: none(), Data: []byte("ab")}
	d := none()
	b := append([]byte{3, 4, 1, 6, 1, 1, 2, 32}, d[:]...)
	if Head([]api.Link{{}, x}) != digest.Tagged("link", append(b, 2, 2, 'a', 'b')) {
		t.Error("the head of a link")
	}
	l := build(t, 23, "a", "b", "")
	if Check(l) != api.OK || l[0].Prev != none() || l[2].Prev != Head(l[:2]) || l[2].No != 2 {
		t.Error("a chain")
	}
	for i, change := range []func(x *api.Link){
		func(x *api.Link) { x.Node = 22 }, func(x *api.Link) { x.No++ }, func(x *api.Link) { x.Prev[31]++ }, func(x *api.Link) { x.Data = make([]byte, 65537) },
	} {
		m := append([]api.Link(nil), l...)
		change(&m[1])
		if Check(m) != api.ErrChain {
			t.Errorf("change %d", i)
		}
	}
	for _, node := range []int{-1, 24} {
		if Check([]api.Link{{Node: node, Prev: none()}}) != api.ErrChain {
			t.Errorf("the node %d", node)
		}
	}
	if Check([]api.Link{{No: 1, Prev: none()}}) != api.ErrChain || Check([]api.Link{{}}) != api.ErrChain {
		t.Error("a wrong first link")
	}
	if Check(make([]api.Link, 1025)) != api.ErrLimit {
		t.Error("1025 links")
	}
}

// P8.2: what is added, and what is refused.
func TestAdd(t *testing.T) {
	l := build(t, 1, "a")
	for _, x := range []struct {
		l    []api.Link
		node int
		data []byte
		want api.Errno
	}{
		{nil, 24, nil, api.ErrArg}, {nil, -1, nil, api.ErrArg}, {l, 2, nil, api.ErrArg}, {l, 1, make([]byte, 65537), api.ErrArg},
		{make([]api.Link, 1025), 0, nil, api.ErrLimit}, {[]api.Link{{No: 1}}, 24, nil, api.ErrChain}, {l, 1, make([]byte, 65536), api.OK},
	} {
		if y, e := Add(x.l, x.node, x.data); e != x.want || (e == api.OK) != (len(y) == len(x.l)+1) {
			t.Errorf("Add(%d): %d, want %d", x.node, e, x.want)
		}
	}
	a, b := build(t, 1, "a", "b"), build(t, 1, "a", "c")
	if len(l) != 1 || string(a[1].Data) != "b" || string(b[1].Data) != "c" {
		t.Error("an argument has changed")
	}
	full := make([]api.Link, 0, 1024)
	for i := range 1024 {
		full = append(full, api.Link{No: i, Prev: Head(full)})
	}
	if Check(full) != api.OK {
		t.Error("1024 links")
	}
	if _, e := Add(full, 0, nil); e != api.ErrLimit {
		t.Error("a link too many")
	}
	if _, e := Add(full, 1, nil); e != api.ErrArg {
		t.Error("the order of errors")
	}
}

// P8.3: where chains part.
func TestPart(t *testing.T) {
	a, b := build(t, 1, "a", "b", "c"), build(t, 1, "a", "x", "c")
	for _, x := range []struct {
		a, b []api.Link
		i    int
		ok   bool
		want api.Errno
	}{
		{a, b, 1, true, api.OK}, {a, a, 0, false, api.OK}, {nil, a, 0, false, api.OK}, {a[:2], a, 0, false, api.OK},
		{a, build(t, 1, "z"), 0, true, api.OK}, {a, build(t, 2, "a"), 0, false, api.ErrChain}, {nil, build(t, 2, "a"), 0, false, api.OK},
		{[]api.Link{{}}, make([]api.Link, 1025), 0, false, api.ErrChain}, {a, make([]api.Link, 1025), 0, false, api.ErrLimit},
	} {
		if i, ok, e := Part(x.a, x.b); i != x.i || ok != x.ok || e != x.want {
			t.Errorf("Part = %d, %v, %d", i, ok, e)
		}
	}
}

// P8.4: beginnings are chains; equal heads mean equal chains; no link but the last one can be replaced.
func TestConsequences(t *testing.T) {
	l := build(t, 0, "a", "b", "c", "d")
	heads := map[api.Digest]bool{}
	for i := range len(l) + 1 {
		if Check(l[:i]) != api.OK || heads[Head(l[:i])] {
			t.Errorf("the first %d links", i)
		}
		heads[Head(l[:i])] = true
	}
	for i := range l {
		m := append([]api.Link(nil), l...)
		m[i].Data = []byte(fmt.Sprint("other ", i))
		if (Check(m) == api.OK) != (i == 3) || Head(m) == Head(l) && i == 3 {
			t.Errorf("the link %d is replaced", i)
		}
	}
	if again := build(t, 0, "a", "b", "c", "d"); !reflect.DeepEqual(l, again) {
		t.Error("equal calls")
	}
}
