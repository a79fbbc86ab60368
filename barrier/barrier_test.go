package barrier

import (
	"math/rand"
	"reflect"
	"slices"
	"testing"

	"acequia/api"
	"acequia/gatecode"
	"acequia/plant"
)

// pool has the levels 0 to 6, of which 0 to 4 are safe; one unit can come in an hour.
func pool() api.Plant {
	return api.Plant{Top: 6, Bank: 4, Start: 1, Positions: 1, Rate: 1, Step: 1, Pass: 5, Feed: 1, Orders: 1, Age: 1}
}

func code(t *testing.T, src string) api.Code {
	t.Helper()
	c, _, e := gatecode.Parse(src)
	if e != api.OK {
		t.Fatalf("Parse: %d", e)
	}
	return c
}

const opens = "when level atleast 3 set 1; always set 0;"

// P33.1: inequalities in states.
func TestHolds(t *testing.T) {
	s := api.State{Level: 1, Position: 2, Pipe: [2]int{3, 4}, Order: 5, Age: 6}
	q := api.Ineq{Level: 1, Position: 10, Pipe: 100, Order: 1000, Age: -10000, Most: 1 + 20 + 700 + 5000 - 60000}
	less := q
	less.Most--
	for i, x := range []struct {
		b    []api.Ineq
		s    api.State
		ok   bool
		want api.Errno
	}{
		{nil, api.State{}, true, 0}, {[]api.Ineq{q}, s, true, 0}, {[]api.Ineq{less}, s, false, 0}, {[]api.Ineq{q, less}, s, false, 0}, {[]api.Ineq{{Most: -1}}, api.State{}, false, 0}, {make([]api.Ineq, 16), s, true, 0},
		{make([]api.Ineq, 17), api.State{Level: -1}, false, api.ErrLimit}, {[]api.Ineq{{Most: 1<<20 + 1}}, api.State{Level: -1}, false, api.ErrBarrier}, {[]api.Ineq{{}, {Level: -1<<20 - 1}}, s, false, api.ErrBarrier}, {[]api.Ineq{{Age: 1 << 62}}, s, false, api.ErrBarrier}, {[]api.Ineq{{Pipe: -1 << 20, Position: 1 << 20}}, s, true, 0},
		{nil, api.State{Level: -1}, false, api.ErrArg}, {nil, api.State{Pipe: [2]int{0, 1<<20 + 1}}, false, api.ErrArg}, {nil, api.State{Order: -1}, false, api.ErrArg}, {nil, api.State{Age: 1 << 20, Position: 1 << 20}, true, 0},
	} {
		if ok, e := Holds(x.b, x.s); ok != x.ok || e != x.want {
			t.Errorf("case %d: %v, %d", i, ok, e)
		}
	}
}

// P33.2 and P33.3: errors in their order.
func TestErrors(t *testing.T) {
	many := make([]api.Ineq, 17)
	wrong := api.Code{Lines: make([]api.Line, 65)}
	for i, x := range []struct {
		p    api.Plant
		c    api.Code
		want api.Errno
	}{{api.Plant{}, wrong, api.ErrPlant}, {pool(), wrong, api.ErrGate}} {
		ok, f, e1 := Check(x.p, x.c, many)
		l, in, e2 := Invariant(x.p, x.c)
		m, out, e3 := Escape(x.p, x.c)
		if e1 != x.want || e2 != x.want || e3 != x.want || ok || in || out || l != nil || m != nil || f != (api.Flaw{}) {
			t.Errorf("case %d: %d, %d, %d", i, e1, e2, e3)
		}
	}
	if _, _, e := Check(pool(), api.Code{}, many); e != api.ErrLimit {
		t.Error("17 inequalities")
	}
	if _, _, e := Check(pool(), api.Code{}, []api.Ineq{{Most: 1 << 21}}); e != api.ErrBarrier {
		t.Error("a wrong inequality")
	}
}

// P33.2: accepted barriers, and each kind of flaw.
func TestCheck(t *testing.T) {
	c := code(t, opens)
	atMost := func(n int) []api.Ineq { return []api.Ineq{{Level: 1, Most: n}} }
	for i, x := range []struct {
		b    []api.Ineq
		ok   bool
		want api.Flaw
	}{
		{atMost(4), true, api.Flaw{}}, {atMost(3), true, api.Flaw{}}, {atMost(2), false, api.Flaw{Kind: api.LeaveV, State: api.State{Level: 2}, Shock: api.Shock{Feed: 1, Msg: -1}}}, {atMost(0), false, api.Flaw{Kind: api.StartV, State: api.State{Level: 1, Age: 1}}},
		{nil, false, api.Flaw{Kind: api.UnsafeV, State: api.State{Level: 5}}}, {[]api.Ineq{{Most: -1}}, false, api.Flaw{Kind: api.StartV, State: api.State{Level: 1, Age: 1}}},
		{[]api.Ineq{{Level: 1, Most: 4}, {Order: 1, Most: 0}}, false, api.Flaw{Kind: api.LeaveV, Shock: api.Shock{Msg: 1}}},
	} {
		if ok, f, e := Check(pool(), c, x.b); ok != x.ok || f != x.want || e != api.OK {
			t.Errorf("case %d: %v, %v, %d", i, ok, f, e)
		}
	}
	p := pool()
	p.Feed = 0
	p.Bank = 5
	if ok, _, _ := Check(p, api.Code{}, atMost(5)); !ok {
		t.Error("nothing comes")
	}
}

// P33.3: the greatest invariant set, and the shortest way out.
func TestInvariantAndEscape(t *testing.T) {
	c := code(t, opens)
	l, ok, e := Invariant(pool(), c)
	if e != api.OK || !ok || len(l) != 5*2*2*2 || l[0] != (api.State{}) || l[len(l)-1] != (api.State{Level: 4, Position: 1, Order: 1, Age: 1}) {
		t.Errorf("Invariant: %d states, %v, %d", len(l), ok, e)
	}
	if m, out, e := Escape(pool(), c); out || m != nil || e != api.OK {
		t.Errorf("Escape: %v", m)
	}
	if l, ok, _ := Invariant(pool(), api.Code{}); ok || slices.ContainsFunc(l, func(s api.State) bool { return s.Position == 0 }) {
		t.Errorf("a gate that stays closed: %v", l)
	}
	shocks := slices.Repeat([]api.Shock{{Feed: 1, Msg: -1}}, 4)
	if m, out, e := Escape(pool(), api.Code{}); !out || e != api.OK || !reflect.DeepEqual(m, shocks) {
		t.Errorf("Escape: %v", m)
	}
	obeys := code(t, "when order is 1 set 1; when level atleast 4 and age is 1 set 1; always set 0;")
	m, out, _ := Escape(pool(), obeys)
	if want := append(slices.Clone(shocks[:3]), api.Shock{Feed: 1, Msg: 0}); !out || !reflect.DeepEqual(m, want) {
		t.Errorf("Escape: %v, want %v", m, want)
	}
	p := pool()
	p.Start = 5
	if m, out, e := Escape(p, c); !out || len(m) != 0 || e != api.OK {
		t.Error("an unsafe beginning")
	}
}

func random(r *rand.Rand) (api.Plant, api.Code) {
	p := api.Plant{Top: 5, Bank: 3 + r.Intn(2), Siphon: r.Intn(2), Start: 1 + r.Intn(3), Positions: 1 + r.Intn(2), Rate: 1 + r.Intn(2), Step: 1 + r.Intn(2), Pass: 2 + r.Intn(3), Feed: 1 + r.Intn(2), Pipe: r.Intn(3), Orders: r.Intn(2), Age: r.Intn(2)}
	c := api.Code{}
	for range r.Intn(4) {
		c.Lines = append(c.Lines, api.Line{Set: r.Intn(3), Conds: []api.Cond{{Var: r.Intn(5), Op: 1 + r.Intn(5), N: r.Intn(5)}}})
	}
	return p, c
}

// P33.4 to P33.6: either certified or escaped; what is in a barrier is in the invariant; lesser feeds, and two barriers.
func TestLaws(t *testing.T) {
	r := rand.New(rand.NewSource(33))
	accepted, escaped := 0, 0
	for range 300 {
		p, c := random(r)
		l, ok, _ := Invariant(p, c)
		m, out, _ := Escape(p, c)
		if ok == out {
			t.Fatalf("%v: %v, %v", p, ok, out)
		}
		if out {
			escaped++
			checkEscape(t, p, c, m)
		}
		var right [][]api.Ineq
		for level := p.Start; level <= p.Bank; level++ {
			for _, b := range [][]api.Ineq{{{Level: 1, Most: level}}, {{Level: 1, Pipe: 1, Most: level}, {Level: -1, Most: -p.Siphon}}, {{Level: 1, Position: -1, Pipe: 1, Most: level - 1}}} {
				if ok, _, _ := Check(p, c, b); ok {
					right = append(right, b)
				}
			}
		}
		for _, b := range right {
			accepted++
			for s := range (gate{p, c}).states() {
				if holds(b, s) && !slices.Contains(l, s) {
					t.Fatalf("%v is in %v, but not invariant", s, b)
				}
			}
			fewer := p
			fewer.Feed--
			if good, _, _ := Check(fewer, c, b); !good || !ok {
				t.Fatalf("%v with a lesser feed", b)
			}
			if good, _, _ := Check(p, c, slices.Concat(b, right[0])); !good {
				t.Fatalf("%v and %v", b, right[0])
			}
		}
	}
	if accepted < 10 || escaped < 10 {
		t.Errorf("%d accepted, %d escaped", accepted, escaped)
	}
}

func checkEscape(t *testing.T, p api.Plant, c api.Code, l []api.Shock) {
	t.Helper()
	s, _ := plant.Begin(p)
	for _, x := range l {
		if ok, _ := plant.Safe(p, s); !ok {
			t.Fatal("a way that is too long")
		}
		s, _, _ = plant.Next(p, c, s, x)
	}
	if ok, _ := plant.Safe(p, s); ok {
		t.Fatal("a way that leads nowhere")
	}
}

// P33.3: the greatest plants are examined as well.
func TestGreatPlant(t *testing.T) {
	p := api.Plant{Top: 63, Bank: 60, Start: 1, Positions: 7, Rate: 3, Step: 2, Pass: 99, Feed: 15, Orders: 7}
	c := code(t, "when level atleast 20 set 7; always set 0;")
	if _, ok, e := Invariant(p, c); !ok || e != api.OK {
		t.Errorf("Invariant: %v, %d", ok, e)
	}
}

// P33.6: an inequality that follows from the others can be left out.
func TestLeftOut(t *testing.T) {
	c := code(t, opens)
	b := []api.Ineq{{Level: 1, Most: 4}, {Level: 2, Most: 9}, {Order: 1, Most: 7}}
	for i := range b[1:] {
		for _, l := range [][]api.Ineq{b, slices.Delete(slices.Clone(b), i+1, i+2)} {
			if ok, f, e := Check(pool(), c, l); !ok || e != api.OK {
				t.Errorf("%v: %v, %d", l, f, e)
			}
		}
	}
}
