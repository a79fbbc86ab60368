package orders

import (
	"math/rand"
	"reflect"
	"slices"
	"testing"

	"acequia/api"
	"acequia/barrier"
	"acequia/gatecode"
	"acequia/network"
	"acequia/plant"
)

func fresh(t *testing.T, gates int) api.Box {
	t.Helper()
	b, e := New(gates)
	if e != api.OK {
		t.Fatalf("New: %d", e)
	}
	return b
}

// sent returns a box with orders for gates, given as pairs.
func sent(t *testing.T, gates int, l ...[2]int) api.Box {
	t.Helper()
	b := fresh(t, gates)
	for _, x := range l {
		y, e := Send(b, x[0], x[1])
		if e != api.OK {
			t.Fatalf("Send: %d", e)
		}
		b = y
	}
	return b
}

func deliver(t *testing.T, b api.Box, i int, want bool) api.Box {
	t.Helper()
	x, heard, e := Deliver(b, i)
	if e != api.OK || heard != want {
		t.Fatalf("Deliver: %v, %d", heard, e)
	}
	return x
}

// P34.1: new boxes, and what is sent.
func TestNewAndSend(t *testing.T) {
	for _, n := range []int{0, -1, 9} {
		if b, e := New(n); e != api.ErrArg || b.Heard != nil {
			t.Errorf("New(%d)", n)
		}
	}
	if Check(fresh(t, 8)) != api.OK || Check(api.Box{}) != api.ErrOrder {
		t.Error("Check")
	}
	b := sent(t, 2, [2]int{1, 7}, [2]int{0, 3})
	want := []api.Packet{{To: 2, Data: []byte{3, 2, 1, 0, 1, 14}}, {To: 1, Data: []byte{3, 2, 1, 2, 1, 6}}}
	if !reflect.DeepEqual(b.Net.Queue, want) || !slices.Equal(b.Sent, []api.Msg{{Gate: 1, Order: 7}, {Order: 3}}) {
		t.Errorf("sent: %v", b)
	}
	for _, x := range [][2]int{{2, 0}, {-1, 0}, {0, 8}, {0, -1}} {
		if y, e := Send(b, x[0], x[1]); e != api.ErrArg || y.Heard != nil {
			t.Errorf("Send(%v)", x)
		}
	}
	full := fresh(t, 1)
	full.Sent = make([]api.Msg, 4096)
	if _, e := Send(full, 0, 0); e != api.ErrLimit {
		t.Error("4097 orders")
	}
	full = sent(t, 1, [2]int{0, 1})
	full.Net.Queue = slices.Repeat(full.Net.Queue, 4096)
	if _, e := Send(full, 0, 0); e != api.ErrLimit {
		t.Error("4097 packets")
	}
	if _, e := Repeat(full, 0); e != api.ErrLimit {
		t.Error("4097 packets by Repeat")
	}
}

// P34.1: boxes that are not valid.
func TestCheck(t *testing.T) {
	for i, change := range []func(b *api.Box){
		func(b *api.Box) { b.Heard = make([]int, 9); b.Fresh = make([]bool, 9) }, func(b *api.Box) { b.Fresh = nil }, func(b *api.Box) { b.Sent = make([]api.Msg, 4097) }, func(b *api.Box) { b.Net.Apart = [][2]int{{1, 1}} }, func(b *api.Box) { b.Sent[0].Gate = 2 }, func(b *api.Box) { b.Sent[0].Order = 8 }, func(b *api.Box) { b.Sent[1].Order = -1 },
		func(b *api.Box) { b.Heard[0] = 3 }, func(b *api.Box) { b.Heard[0] = -1 }, func(b *api.Box) { b.Heard[0] = 1 }, func(b *api.Box) { b.Fresh[1] = true }, func(b *api.Box) { b.Net.Queue[0].To = 1 }, func(b *api.Box) { b.Net.Queue[0].From = 3 }, func(b *api.Box) { b.Net.Queue[0].Data = []byte{3, 2, 1, 0, 1, 12} }, func(b *api.Box) { b.Net.Queue[0].Data = nil }, func(b *api.Box) { b.Sent = b.Sent[:1] },
		func(b *api.Box) { b.Net.Queue[0].Data = append(b.Net.Queue[0].Data, 0) }, func(b *api.Box) { b.Sent[0].Order = 6 },
	} {
		b := sent(t, 2, [2]int{1, 7}, [2]int{0, 3})
		change(&b)
		_, e1 := Send(b, 0, 0)
		_, _, e2 := Deliver(b, 0)
		_, e3 := Lose(b, 0)
		_, e4 := Repeat(b, 0)
		_, _, e5 := Tick(b)
		for _, e := range []api.Errno{Check(b), e1, e2, e3, e4, e5} {
			if e != api.ErrOrder {
				t.Errorf("change %d: %d", i, e)
			}
		}
	}
}

// P34.2 and P34.3: what is heard, and what comes too late.
func TestDeliverAndTick(t *testing.T) {
	b := sent(t, 2, [2]int{0, 3}, [2]int{0, 5}, [2]int{1, 2})
	x := deliver(t, b, 1, true)
	if !slices.Equal(x.Heard, []int{2, 0}) || !slices.Equal(x.Fresh, []bool{true, false}) || len(x.Net.Queue) != 2 || b.Heard[0] != 0 || b.Fresh[0] {
		t.Errorf("delivered: %v", x)
	}
	x = deliver(t, x, 0, false)
	y, l, e := Tick(x)
	if e != api.OK || !slices.Equal(l, []int{5, -1}) || !slices.Equal(y.Fresh, []bool{false, false}) || !slices.Equal(y.Heard, x.Heard) || !x.Fresh[0] {
		t.Errorf("Tick: %v, %v", l, y)
	}
	if _, l, _ := Tick(y); !slices.Equal(l, []int{-1, -1}) {
		t.Errorf("Tick again: %v", l)
	}
	again, e := Repeat(b, 2)
	if e != api.OK || len(again.Net.Queue) != 4 {
		t.Fatal("Repeat")
	}
	again = deliver(t, deliver(t, again, 3, true), 2, false)
	if !slices.Equal(again.Heard, []int{0, 3}) {
		t.Errorf("a repeated packet: %v", again.Heard)
	}
	lost, e := Lose(b, 1)
	if e != api.OK || !slices.Equal(deliver(t, lost, 0, true).Heard, []int{1, 0}) {
		t.Error("Lose")
	}
	cut := b
	cut.Net, _ = network.Cut(cut.Net, 0, 1, true)
	if x := deliver(t, cut, 0, false); len(x.Net.Queue) != 2 || x.Heard[0] != 0 {
		t.Error("a cut link")
	}
	for _, i := range []int{-1, 3} {
		_, _, e1 := Deliver(b, i)
		_, e2 := Lose(b, i)
		_, e3 := Repeat(b, i)
		if e1 != api.ErrArg || e2 != api.ErrArg || e3 != api.ErrArg {
			t.Errorf("the packet %d", i)
		}
	}
}

// P34.4 and P34.6: what is heard was sent, the newest order stays, and all boxes are valid.
func TestLaws(t *testing.T) {
	r := rand.New(rand.NewSource(34))
	for range 100 {
		b, lossless := fresh(t, 3), r.Intn(2) == 0
		for range 60 {
			before := slices.Clone(b.Heard)
			switch n := r.Intn(max(1, len(b.Net.Queue))); r.Intn(6) {
			case 0, 1:
				b, _ = Send(b, r.Intn(3), r.Intn(8))
			case 2:
				if x, e := Lose(b, n); e == api.OK && !lossless {
					b = x
				}
			case 3:
				if x, e := Repeat(b, n); e == api.OK {
					b = x
				}
			case 4:
				b, _, _ = Tick(b)
			default:
				if x, _, e := Deliver(b, n); e == api.OK {
					b = x
				}
			}
			for g, heard := range b.Heard {
				if heard < before[g] || heard > 0 && b.Sent[heard-1].Gate != g || Check(b) != api.OK {
					t.Fatalf("%v becomes %v", before, b.Heard)
				}
			}
		}
		for len(b.Net.Queue) > 0 {
			b, _, _ = Deliver(b, r.Intn(len(b.Net.Queue)))
		}
		for n, x := range b.Sent {
			if lossless && b.Heard[x.Gate] < n+1 {
				t.Fatal("an order that did not arrive")
			}
		}
	}
}

// P34.5: a certified gate is safe over any network.
func TestSafe(t *testing.T) {
	p := api.Plant{Top: 8, Bank: 6, Start: 1, Positions: 2, Rate: 1, Step: 2, Pass: 5, Feed: 2, Orders: 2, Age: 1}
	c, _, _ := gatecode.Parse("when level atleast 3 set 2; when order is 1 set 1; always set 0;")
	b := []api.Ineq{{Level: 1, Most: 4}}
	if ok, f, e := barrier.Check(p, c, b); !ok || e != api.OK {
		t.Fatalf("%v, %d", f, e)
	}
	r := rand.New(rand.NewSource(35))
	box, s := fresh(t, 1), api.State{}
	s, _ = plant.Begin(p)
	for range 1000 {
		box, _ = Send(box, 0, r.Intn(3))
		for len(box.Net.Queue) > r.Intn(6) {
			if r.Intn(2) == 0 {
				box, _ = Lose(box, r.Intn(len(box.Net.Queue)))
			} else {
				box, _, _ = Deliver(box, r.Intn(len(box.Net.Queue)))
			}
		}
		x, l, _ := Tick(box)
		box = x
		s, _, _ = plant.Next(p, c, s, api.Shock{Feed: r.Intn(3), Msg: l[0]})
		safe, _ := plant.Safe(p, s)
		if in, _ := barrier.Holds(b, s); !in || !safe {
			t.Fatalf("%v", s)
		}
	}
}

// P34.6: in whatever order the packets of an hour arrive, the gates have heard the same after all of them.
func TestOrderOfPackets(t *testing.T) {
	r := rand.New(rand.NewSource(36))
	for range 100 {
		b := fresh(t, 3)
		for range 8 {
			b, _ = Send(b, r.Intn(3), r.Intn(8))
		}
		heard := func() []int {
			x := b
			for len(x.Net.Queue) > 0 {
				x, _, _ = Deliver(x, r.Intn(len(x.Net.Queue)))
			}
			return x.Heard
		}
		if !slices.Equal(heard(), heard()) {
			t.Fatal("the order of packets matters")
		}
		twice, _ := Repeat(b, 0)
		once := deliver(t, twice, 0, true)
		again, _, _ := Deliver(once, len(once.Net.Queue)-1)
		if !slices.Equal(again.Heard, once.Heard) {
			t.Fatal("a packet that is delivered twice")
		}
	}
}
