package plant

import (
	"math/rand"
	"testing"

	"acequia/api"
	"acequia/gatecode"
)

func plant() api.Plant {
	return api.Plant{Top: 9, Bank: 7, Siphon: 1, Start: 3, Positions: 3, Rate: 2, Step: 2, Pass: 5, Feed: 3, Pipe: 2, Orders: 1, Age: 2}
}

func code(t *testing.T, src string) api.Code {
	t.Helper()
	c, _, e := gatecode.Parse(src)
	if e != api.OK {
		t.Fatalf("Parse: %d", e)
	}
	return c
}

// P32.1: valid plants, and their states.
func TestCheckAndCount(t *testing.T) {
	for i, x := range []struct {
		change func(p *api.Plant)
		want   api.Errno
		n      int
	}{
		{func(p *api.Plant) {}, api.OK, 10 * 4 * 16 * 2 * 3}, {func(p *api.Plant) { *p = api.Plant{} }, api.ErrPlant, 0}, {func(p *api.Plant) { p.Pipe = 0 }, api.OK, 240}, {func(p *api.Plant) { p.Pipe = 1 }, api.OK, 960}, {func(p *api.Plant) { p.Pipe = 3 }, api.ErrPlant, 0}, {func(p *api.Plant) { p.Pipe = -1 }, api.ErrPlant, 0},
		{func(p *api.Plant) { p.Top, p.Bank = 64, 7 }, api.ErrPlant, 0}, {func(p *api.Plant) { p.Top = 0 }, api.ErrPlant, 0}, {func(p *api.Plant) { p.Bank = 9 }, api.ErrPlant, 0}, {func(p *api.Plant) { p.Bank, p.Siphon = 0, 0 }, api.OK, 3840}, {func(p *api.Plant) { p.Siphon = 8 }, api.ErrPlant, 0}, {func(p *api.Plant) { p.Siphon = -1 }, api.ErrPlant, 0}, {func(p *api.Plant) { p.Start = 10 }, api.ErrPlant, 0}, {func(p *api.Plant) { p.Start = 9 }, api.OK, 3840},
		{func(p *api.Plant) { p.Positions = 0 }, api.ErrPlant, 0}, {func(p *api.Plant) { p.Positions = 16 }, api.ErrPlant, 0}, {func(p *api.Plant) { p.Rate = 0 }, api.ErrPlant, 0}, {func(p *api.Plant) { p.Rate = 16 }, api.ErrPlant, 0}, {func(p *api.Plant) { p.Step = 0 }, api.ErrPlant, 0}, {func(p *api.Plant) { p.Step = 16 }, api.ErrPlant, 0}, {func(p *api.Plant) { p.Pass = 1<<20 + 1 }, api.ErrPlant, 0}, {func(p *api.Plant) { p.Feed = 16 }, api.ErrPlant, 0}, {func(p *api.Plant) { p.Feed = -1 }, api.ErrPlant, 0},
		{func(p *api.Plant) { p.Orders = 8 }, api.ErrPlant, 0}, {func(p *api.Plant) { p.Age = 8 }, api.ErrPlant, 0}, {func(p *api.Plant) { p.Age = 3 }, api.ErrLimit, 0}, {func(p *api.Plant) { p.Orders, p.Age, p.Pipe, p.Top = 7, 7, 0, 15 }, api.OK, 4096}, {func(p *api.Plant) { p.Orders, p.Age, p.Pipe, p.Top = 7, 7, 0, 16 }, api.ErrLimit, 0},
	} {
		p := plant()
		x.change(&p)
		n, e1 := Count(p)
		_, e2 := Begin(p)
		_, e3 := Safe(p, api.State{})
		_, _, e4 := Next(p, api.Code{}, api.State{}, api.Shock{})
		if e := Check(p); e != x.want || e1 != e || e2 != e || e3 != e || e4 != e || n != x.n {
			t.Errorf("change %d: %d, want %d, %d states", i, e, x.want, n)
		}
	}
}

// P32.1: the beginning, and safe states.
func TestBeginAndSafe(t *testing.T) {
	p := plant()
	if s, e := Begin(p); e != api.OK || s != (api.State{Level: 3, Age: 2}) {
		t.Errorf("Begin = %v", s)
	}
	for i, x := range []struct {
		s    api.State
		ok   bool
		want api.Errno
	}{
		{api.State{Level: 1}, true, 0}, {api.State{Level: 7, Position: 2, Pipe: [2]int{3, 3}, Order: 1, Age: 2}, true, 0}, {api.State{Level: 0}, false, 0}, {api.State{Level: 8}, false, 0}, {api.State{Level: 3, Position: 3}, false, 0},
		{api.State{Level: 10}, false, api.ErrPlant}, {api.State{Level: -1}, false, api.ErrPlant}, {api.State{Position: 4}, false, api.ErrPlant}, {api.State{Pipe: [2]int{4, 0}}, false, api.ErrPlant}, {api.State{Pipe: [2]int{0, -1}}, false, api.ErrPlant}, {api.State{Order: 2}, false, api.ErrPlant}, {api.State{Age: 3}, false, api.ErrPlant},
	} {
		_, _, f := Next(p, api.Code{}, x.s, api.Shock{})
		if ok, e := Safe(p, x.s); ok != x.ok || e != x.want || f != e {
			t.Errorf("state %d: %v, %d, %d", i, ok, e, f)
		}
	}
	p.Pipe = 1
	if _, e := Safe(p, api.State{Pipe: [2]int{0, 1}}); e != api.ErrPlant {
		t.Error("a pipe that is too long")
	}
}

// P32.2: hours, step by step.
func TestNext(t *testing.T) {
	c := code(t, "when feed above 2 set 9; when order is 1 and age is 0 set 3; when age is 2 and level above 3 set 1; when position is 3 set 0;")
	for i, x := range []struct {
		pipe int
		s    api.State
		x    api.Shock
		want api.State
		out  int
	}{
		{2, api.State{Level: 3, Pipe: [2]int{1, 2}}, api.Shock{Feed: 3, Msg: -1}, api.State{Level: 4, Pipe: [2]int{2, 3}, Age: 1}, 0},
		{2, api.State{Level: 3, Pipe: [2]int{1, 2}, Age: 2}, api.Shock{Msg: 1}, api.State{Level: 0, Position: 2, Pipe: [2]int{2, 0}, Order: 1}, 4},
		{1, api.State{Level: 9, Pipe: [2]int{3, 0}, Age: 2}, api.Shock{Feed: 2, Msg: -1}, api.State{Level: 8, Position: 2, Pipe: [2]int{2, 0}, Age: 2}, 4},
		{0, api.State{Level: 9, Age: 1, Order: 1}, api.Shock{Feed: 2, Msg: -1}, api.State{Level: 9, Position: 1, Age: 2, Order: 1}, 2},
		{0, api.State{Level: 9, Position: 3}, api.Shock{Feed: 0, Msg: 0}, api.State{Level: 7, Position: 1}, 2},
		{0, api.State{Level: 9, Position: 0}, api.Shock{Feed: 2, Msg: 0}, api.State{Level: 9}, 0},
		{0, api.State{Level: 0, Position: 2}, api.Shock{Feed: 3, Msg: -1}, api.State{Position: 3, Age: 1}, 3},
	} {
		p := plant()
		p.Pipe = x.pipe
		if y, out, e := Next(p, c, x.s, x.x); y != x.want || out != x.out || e != api.OK {
			t.Errorf("hour %d: %v, %d, %d", i, y, out, e)
		}
	}
	bad := api.Code{Lines: make([]api.Line, 65)}
	if _, _, e := Next(plant(), bad, api.State{Level: 64}, api.Shock{}); e != api.ErrGate {
		t.Error("a wrong program")
	}
	for _, x := range []api.Shock{{Msg: -2}, {Msg: 2}, {Feed: 4}, {Feed: -1}} {
		if y, out, e := Next(plant(), api.Code{}, api.State{}, x); e != api.ErrArg || out != 0 || y != (api.State{}) {
			t.Errorf("the shock %v", x)
		}
	}
	if _, _, e := Next(plant(), api.Code{}, api.State{Level: 64}, api.Shock{Msg: -2}); e != api.ErrPlant {
		t.Error("the order of errors")
	}
}

// P32.3 to P32.5: closed, conserved, and no faster than a step.
func TestLaws(t *testing.T) {
	r := rand.New(rand.NewSource(32))
	for range 200 {
		p := plant()
		p.Pipe, p.Step, p.Rate, p.Age = r.Intn(3), 1+r.Intn(3), 1+r.Intn(3), r.Intn(3)
		c := api.Code{}
		for range r.Intn(4) {
			c.Lines = append(c.Lines, api.Line{Set: r.Intn(6), Conds: []api.Cond{{Var: r.Intn(5), Op: 1 + r.Intn(5), N: r.Intn(4)}}})
		}
		s, _ := Begin(p)
		fed, arrived := 0, 0
		for range 50 {
			x := api.Shock{Feed: r.Intn(p.Feed + 1), Msg: r.Intn(p.Orders+2) - 1}
			y, out, e := Next(p, c, s, x)
			if e != api.OK || !belongs(p, y) || out > p.Rate*y.Position || max(y.Position-s.Position, s.Position-y.Position) > p.Step || len(c.Lines) == 0 && y.Position != s.Position {
				t.Fatalf("%v becomes %v", s, y)
			}
			arrives := x.Feed
			if p.Pipe > 0 {
				arrives = s.Pipe[0]
			}
			fed, arrived = fed+x.Feed, arrived+arrives
			if rest := s.Level + arrives - out - y.Level; rest < 0 || rest > 0 && y.Level != p.Top || fed != arrived+y.Pipe[0]+y.Pipe[1] {
				t.Fatalf("%v becomes %v", s, y)
			}
			if x.Msg >= 0 && (y.Order != x.Msg || y.Age != 0) || x.Msg < 0 && (y.Order != s.Order || y.Age != min(s.Age+1, p.Age)) {
				t.Fatal("what is heard")
			}
			s = y
		}
	}
}

// P32.5: safe states stay safe with a greater bank, and with a greater pass.
func TestSafer(t *testing.T) {
	r := rand.New(rand.NewSource(33))
	for range 500 {
		p := plant()
		p.Bank, p.Pass = 1+r.Intn(7), r.Intn(7)
		s := api.State{Level: r.Intn(10), Position: r.Intn(4)}
		wider := p
		wider.Bank, wider.Pass = p.Bank+r.Intn(2), p.Pass+r.Intn(2)
		before, _ := Safe(p, s)
		after, e := Safe(wider, s)
		if want := s.Level >= p.Siphon && s.Level <= p.Bank && p.Rate*s.Position <= p.Pass; before != want || before && !after || e != api.OK {
			t.Fatalf("%v in %v: %v, %v", s, p, before, after)
		}
	}
}
