package cascade

import (
	"math/rand"
	"reflect"
	"slices"
	"testing"

	"acequia/api"
	"acequia/barrier"
	"acequia/gatecode"
	"acequia/orders"
	"acequia/plant"
)

func code(t *testing.T, src string) api.Code {
	t.Helper()
	c, _, e := gatecode.Parse(src)
	if e != api.OK {
		t.Fatalf("Parse: %d", e)
	}
	return c
}

// canal returns a certified cascade.
func canal(t *testing.T, gates int) (x api.Cascade) {
	t.Helper()
	p := api.Plant{Top: 8, Bank: 6, Start: 1, Positions: 2, Rate: 1, Step: 2, Pass: 5, Feed: 2, Orders: 2, Age: 1}
	for range gates {
		x.Plants = append(x.Plants, p)
		x.Codes = append(x.Codes, code(t, "when level atleast 3 set 2; when order is 1 set 1; always set 0;"))
		x.Barriers = append(x.Barriers, []api.Ineq{{Level: 1, Most: 4}})
	}
	return x
}

func step(feed int, msgs []int, stuck ...int) api.Step {
	s := api.Step{Feed: feed, Msgs: msgs, Stuck: make([]bool, len(msgs))}
	for _, i := range stuck {
		s.Stuck[i] = true
	}
	return s
}

// P35.1: valid cascades, and where they are certified.
func TestCheckAndCertified(t *testing.T) {
	for i, x := range []struct {
		change func(x *api.Cascade)
		want   api.Errno
		gate   int
		ok     bool
	}{
		{func(x *api.Cascade) {}, 0, 0, true}, {func(x *api.Cascade) { *x = api.Cascade{} }, api.ErrCascade, 0, false}, {func(x *api.Cascade) { *x = api.Cascade{Plants: make([]api.Plant, 9)} }, api.ErrLimit, 0, false}, {func(x *api.Cascade) { x.Codes = x.Codes[1:] }, api.ErrCascade, 0, false}, {func(x *api.Cascade) { x.Barriers = x.Barriers[1:] }, api.ErrCascade, 0, false}, {func(x *api.Cascade) { x.Plants = x.Plants[1:] }, api.ErrCascade, 0, false},
		{func(x *api.Cascade) { x.Plants[1].Top = 0; x.Codes[2].Lines = make([]api.Line, 65) }, api.ErrPlant, 0, false}, {func(x *api.Cascade) { x.Codes[1].Lines = make([]api.Line, 65); x.Plants[2].Top = 0 }, api.ErrGate, 0, false}, {func(x *api.Cascade) { x.Barriers[0] = make([]api.Ineq, 17) }, api.ErrLimit, 0, false}, {func(x *api.Cascade) { x.Barriers[2] = []api.Ineq{{Most: 1 << 21}} }, api.ErrBarrier, 0, false}, {func(x *api.Cascade) {
			x.Plants[0].Age, x.Plants[0].Orders, x.Plants[0].Pipe, x.Plants[0].Top = 7, 7, 2, 63
		}, api.ErrLimit, 0, false},
		{func(x *api.Cascade) { x.Plants[1].Feed = 1 }, 0, 1, false}, {func(x *api.Cascade) { x.Plants[0].Feed = 1 }, 0, 0, true}, {func(x *api.Cascade) { x.Barriers[2] = nil }, 0, 2, false}, {func(x *api.Cascade) { x.Barriers[0], x.Plants[1].Feed = nil, 1 }, 0, 0, false},
	} {
		y := canal(t, 3)
		x.change(&y)
		ok, gate, e := Certified(y)
		_, _, f := Play(y, make([]api.Step, 4097))
		if Check(y) != x.want || e != x.want || ok != x.ok || gate != x.gate || x.want != api.OK && f != x.want {
			t.Errorf("change %d: %v, %d, %d, %d", i, ok, gate, e, f)
		}
	}
}

// P35.2: errors of a play.
func TestPlayErrors(t *testing.T) {
	x := canal(t, 2)
	if l, bad, e := Play(x, make([]api.Step, 4097)); e != api.ErrLimit || l != nil || bad != 0 {
		t.Error("4097 hours")
	}
	good := step(2, []int{-1, -1})
	for i, s := range []api.Step{{}, step(3, []int{0, 0}), step(-1, []int{0, 0}), step(0, []int{0}), step(0, []int{0, 3}), step(0, []int{-2, 0}), {Msgs: []int{0, 0}, Stuck: []bool{true}}} {
		if l, bad, e := Play(x, []api.Step{good, s}); e != api.ErrArg || l != nil || bad != 0 {
			t.Errorf("step %d: %d", i, e)
		}
	}
	x.Plants[1].Feed = 1
	flood := slices.Repeat([]api.Step{good}, 3)
	if l, bad, e := Play(x, flood); e != api.ErrCascade || l != nil || bad != 0 {
		t.Errorf("more than may be fed: %d", e)
	}
	if _, _, e := Play(x, append(flood, step(3, []int{0, 0}))); e != api.ErrArg {
		t.Errorf("the order of errors: %d", e)
	}
}

// P35.2: hours of two gates, written out.
func TestPlay(t *testing.T) {
	x := canal(t, 2)
	l, bad, e := Play(x, nil)
	if begin := (api.State{Level: 1, Age: 1}); e != api.OK || bad != 0 || !slices.Equal(l, []api.State{begin, begin}) {
		t.Errorf("no steps: %v", l)
	}
	l, bad, e = Play(x, []api.Step{step(2, []int{1, -1}), step(2, []int{-1, 2})})
	if want := []api.State{{Level: 3, Position: 1, Order: 1, Age: 1}, {Level: 3, Order: 2}}; e != api.OK || bad != 0 || !slices.Equal(l, want) {
		t.Errorf("two hours: %v, want %v", l, want)
	}
	closed := slices.Repeat([]api.Step{step(2, []int{-1, -1}, 0)}, 9)
	if l, bad, e := Play(x, closed); e != api.OK || bad != 0 || l[0].Level != 8 || l[1].Level != 1 {
		t.Errorf("a stuck gate: %v, %d", l, bad)
	}
	lazy := canal(t, 2)
	lazy.Codes[0] = api.Code{}
	if _, bad, _ := Play(lazy, slices.Repeat([]api.Step{step(2, []int{-1, -1})}, 3)); bad != 1 {
		t.Errorf("a gate that does nothing: %d", bad)
	}
	later := append(slices.Repeat([]api.Step{step(2, []int{-1, -1})}, 3), closed...)
	if _, bad, _ := Play(lazy, later); bad != 1 {
		t.Errorf("a gate that is stuck too late: %d", bad)
	}
	if _, bad, _ := Play(lazy, later[1:]); bad != 0 {
		t.Errorf("a gate that is stuck in time: %d", bad)
	}
	lazy.Plants[1].Start = 7
	if _, bad, _ := Play(lazy, later); bad != 2 {
		t.Errorf("an unsafe beginning: %d", bad)
	}
}

func random(r *rand.Rand, gates int) (l []api.Step) {
	for range r.Intn(40) {
		s := api.Step{Feed: r.Intn(3)}
		for range gates {
			s.Msgs, s.Stuck = append(s.Msgs, r.Intn(4)-1), append(s.Stuck, r.Intn(9) == 0)
		}
		l = append(l, s)
	}
	return l
}

// P35.3, P35.4 and P35.6: composition; what a gate does depends on those above it alone.
func TestComposition(t *testing.T) {
	r := rand.New(rand.NewSource(35))
	x := canal(t, 3)
	for range 200 {
		l := random(r, 3)
		states, bad, e := Play(x, l)
		if e != api.OK || bad != 0 {
			t.Fatalf("%d, %d", bad, e)
		}
		for i, s := range states {
			stuck := slices.ContainsFunc(l, func(y api.Step) bool { return y.Stuck[i] })
			if in, _ := barrier.Holds(x.Barriers[i], s); !in && !stuck {
				t.Fatalf("the gate %d leaves its barrier", i)
			}
		}
		above := api.Cascade{Plants: x.Plants[:2], Codes: x.Codes[:2], Barriers: x.Barriers[:2]}
		var fewer []api.Step
		for _, y := range l {
			fewer = append(fewer, api.Step{Feed: y.Feed, Msgs: y.Msgs[:2], Stuck: y.Stuck[:2]})
		}
		if two, _, e := Play(above, fewer); e != api.OK || !reflect.DeepEqual(two, states[:2]) {
			t.Fatal("the first gates")
		}
		if ok, _, _ := Certified(above); !ok {
			t.Fatal("without its last gate")
		}
		checkSingle(t, x, l, states[0])
	}
}

// checkSingle plays the first gate as a plant.
func checkSingle(t *testing.T, x api.Cascade, l []api.Step, want api.State) {
	t.Helper()
	s, _ := plant.Begin(x.Plants[0])
	for _, y := range l {
		c := x.Codes[0]
		if y.Stuck[0] {
			c = api.Code{}
		}
		s, _, _ = plant.Next(x.Plants[0], c, s, api.Shock{Feed: y.Feed, Msg: y.Msgs[0]})
	}
	if s != want {
		t.Fatalf("%v, want %v", s, want)
	}
}

// P35.5: safe over any network.
func TestNetwork(t *testing.T) {
	r := rand.New(rand.NewSource(36))
	x := canal(t, 3)
	box, _ := orders.New(3)
	var l []api.Step
	for range 500 {
		box, _ = orders.Send(box, r.Intn(3), r.Intn(3))
		for len(box.Net.Queue) > r.Intn(6) {
			if r.Intn(2) == 0 {
				box, _ = orders.Lose(box, r.Intn(len(box.Net.Queue)))
			} else {
				box, _, _ = orders.Deliver(box, r.Intn(len(box.Net.Queue)))
			}
		}
		next, msgs, _ := orders.Tick(box)
		box = next
		l = append(l, step(r.Intn(3), msgs))
	}
	if _, bad, e := Play(x, l); bad != 0 || e != api.OK {
		t.Errorf("%d, %d", bad, e)
	}
}
