package network

import (
	"fmt"
	"math/rand"
	"reflect"
	"testing"

	"acequia/api"
)

func packetOf(from, to int, data string) api.Packet {
	return api.Packet{From: from, To: to, Data: []byte(data)}
}

func send(t *testing.T, n api.Net, l ...api.Packet) api.Net {
	t.Helper()
	for _, p := range l {
		x, e := Send(n, p)
		if e != api.OK {
			t.Fatalf("Send(%v): %d", p, e)
		}
		n = x
	}
	return n
}

func texts(n api.Net) (s string) {
	for _, p := range n.Queue {
		s += string(p.Data)
	}
	return s
}

// P6.1: valid links and packets.
func TestCheckAndSend(t *testing.T) {
	if n := New(); Check(n) != api.OK || len(n.Queue) != 0 || len(n.Apart) != 0 {
		t.Error("New")
	}
	bad := []api.Net{
		{Queue: make([]api.Packet, 1)}, {Apart: [][2]int{{1, 1}}}, {Apart: [][2]int{{2, 1}}}, {Apart: [][2]int{{0, 24}}}, {Apart: [][2]int{{-1, 2}}},
		{Apart: [][2]int{{0, 2}, {0, 1}}}, {Apart: [][2]int{{0, 1}, {0, 1}}}, {Apart: [][2]int{{1, 2}, {0, 3}}},
		{Queue: []api.Packet{packetOf(0, 24, "")}}, {Queue: []api.Packet{{From: 0, To: 1, Data: make([]byte, 1<<20+1)}}},
	}
	for range 4097 {
		bad[0].Queue = append(bad[0].Queue, packetOf(0, 1, ""))
	}
	bad[0].Queue = bad[0].Queue[1:]
	for i, n := range bad {
		_, e1 := Send(n, packetOf(0, 1, ""))
		_, _, e2 := Deliver(n, 0)
		_, e3 := Lose(n, 0)
		_, e4 := Repeat(n, 0)
		_, e5 := Cut(n, 0, 1, true)
		for _, e := range []api.Errno{Check(n), e1, e2, e3, e4, e5} {
			if e != api.ErrNet {
				t.Errorf("links %d: %d", i, e)
			}
		}
	}
	for _, p := range []api.Packet{{}, packetOf(3, 3, ""), packetOf(-1, 3, ""), packetOf(0, 24, ""), {To: 1, Data: make([]byte, 1<<20+1)}} {
		if x, e := Send(New(), p); e != api.ErrNet || x.Queue != nil {
			t.Errorf("Send %d to %d", p.From, p.To)
		}
	}
	n := send(t, New(), packetOf(23, 0, "a"), api.Packet{To: 1, Data: make([]byte, 1<<20)})
	if len(n.Queue) != 2 || n.Queue[0].From != 23 {
		t.Error("the queue")
	}
	a, b := send(t, n, packetOf(0, 1, "a")), send(t, n, packetOf(0, 1, "b"))
	if string(a.Queue[2].Data) != "a" || string(b.Queue[2].Data) != "b" {
		t.Error("two links share memory")
	}
}

// P6.2: packets leave, in whatever order, or are there twice.
func TestDeliverLoseRepeat(t *testing.T) {
	n := send(t, New(), packetOf(0, 1, "a"), packetOf(1, 0, "b"), packetOf(2, 1, "c"))
	p, x, e := Deliver(n, 1)
	if e != api.OK || string(p.Data) != "b" || p.From != 1 || texts(x) != "ac" || texts(n) != "abc" {
		t.Errorf("Deliver: %v, %v", p, x)
	}
	if x, e := Lose(n, 0); e != api.OK || texts(x) != "bc" {
		t.Errorf("Lose: %v", x)
	}
	if x, e := Repeat(n, 0); e != api.OK || texts(x) != "abca" {
		t.Errorf("Repeat: %v", x)
	}
	for _, at := range []int{-1, 3, 1 << 62} {
		p, x, e1 := Deliver(n, at)
		y, e2 := Lose(n, at)
		z, e3 := Repeat(n, at)
		if e1 != api.ErrArg || e2 != api.ErrArg || e3 != api.ErrArg || p.Data != nil || x.Queue != nil || y.Queue != nil || z.Queue != nil {
			t.Errorf("at %d", at)
		}
	}
	full := New()
	for range api.MaxPackets {
		full.Queue = append(full.Queue, packetOf(0, 1, ""))
	}
	if _, e := Send(full, packetOf(0, 1, "")); e != api.ErrLimit {
		t.Error("Send into full links")
	}
	if _, e := Repeat(full, 0); e != api.ErrLimit {
		t.Error("Repeat in full links")
	}
	if _, e := Repeat(full, 4096); e != api.ErrArg {
		t.Error("the order of errors")
	}
}

// P6.3: links are cut and mended.
func TestCut(t *testing.T) {
	n := New()
	for _, x := range []struct {
		a, b int
		on   bool
		want string
	}{
		{3, 1, true, "[[1 3]]"}, {1, 3, true, "[[1 3]]"}, {5, 6, true, "[[1 3] [5 6]]"}, {0, 9, true, "[[0 9] [1 3] [5 6]]"},
		{1, 2, true, "[[0 9] [1 2] [1 3] [5 6]]"}, {7, 8, false, "[[0 9] [1 2] [1 3] [5 6]]"}, {3, 1, false, "[[0 9] [1 2] [5 6]]"}, {23, 22, true, "[[0 9] [1 2] [5 6] [22 23]]"},
	} {
		m, e := Cut(n, x.a, x.b, x.on)
		if e != api.OK || fmt.Sprint(m.Apart) != x.want || Check(m) != api.OK {
			t.Errorf("Cut(%d, %d, %v) = %v", x.a, x.b, x.on, m.Apart)
		}
		n = m
	}
	for _, x := range [][2]int{{2, 2}, {-1, 2}, {0, 24}, {24, 0}} {
		if m, e := Cut(n, x[0], x[1], true); e != api.ErrArg || m.Apart != nil {
			t.Errorf("Cut(%v)", x)
		}
	}
	n = send(t, n, packetOf(2, 1, "a"), packetOf(1, 2, "b"), packetOf(1, 3, "c"))
	for range 2 {
		p, x, e := Deliver(n, 0)
		if e != api.OK || !reflect.DeepEqual(p, api.Packet{}) {
			t.Errorf("over a cut link came %v", p)
		}
		n = x
	}
	if p, _, e := Deliver(n, 0); e != api.OK || string(p.Data) != "c" {
		t.Error("a link that is not cut")
	}
}

// P6.4: what is delivered has been sent; without losses each packet arrives once.
func TestConsequences(t *testing.T) {
	r := rand.New(rand.NewSource(6))
	for range 100 {
		n, sent, lossless := New(), map[string]int{}, true
		for k := range 40 {
			switch r.Intn(4) {
			case 0, 1:
				p := packetOf(r.Intn(3), 3+r.Intn(3), fmt.Sprint(k))
				sent[fmt.Sprint(p)] = 1
				n = send(t, n, p)
			case 2:
				if x, e := Repeat(n, r.Intn(5)); e == api.OK && r.Intn(10) == 0 {
					n, lossless = x, false
				}
			}
			p, x, e := Deliver(n, r.Intn(5))
			if e != api.OK {
				continue
			}
			if n = x; Check(n) != api.OK || sent[fmt.Sprint(p)] == 0 {
				t.Fatal("a packet that was not sent")
			}
			if sent[fmt.Sprint(p)]++; lossless && sent[fmt.Sprint(p)] > 2 {
				t.Fatal("a packet was delivered twice")
			}
		}
	}
}
