package console

import (
	"slices"

	"acequia/api"
	"acequia/claims"
	"acequia/clocks"
	"acequia/judgement"
	"acequia/ledger"
	"acequia/refuse"
	"acequia/season"
	"acequia/settle"
	"acequia/suspects"
	"acequia/tablets"
	"acequia/timetable"
	"acequia/winners"
)

// orders prints a timetable, or why there is none.
func (s *session) orders(n []int) {
	d, w := s.district()
	r, refused, e := refuse.Why(d, w.Deeds, n[0], n[1], n[2])
	require(e)
	if refused {
		s.print("refused", r.Rights)
		s.print("limit", r.Kind, r.Reach, r.Hour)
		for _, p := range r.Parcels {
			s.print("parcel", p.Reach, p.Hour, p.Litres, p.Wanted)
		}
		return
	}
	c, e := claims.Of(d, w.Deeds, n[0], n[1], n[2])
	require(e)
	l, _, e := timetable.Make(d, c)
	require(e)
	for _, o := range l {
		s.print("order", o.Hour, o.Index, o.Litres, o.Outlet)
	}
}

// season returns the season of the world. Nothing of it has been seen yet.
func (s *session) season() (x api.Season, w api.World) {
	d, w := s.district()
	x = api.Season{District: d, Every: w.Every, Deeds: w.Deeds, Done: w.Done, Judgements: w.Judgements, Forecasts: slices.Clone(w.Forecasts), Stakes: w.Stakes, Weather: w.Weather}
	for i, f := range x.Forecasts {
		x.Forecasts[i].Seen = make([]int, len(f.Bounds))
	}
	return x, w
}

// outcome returns what becomes of the season.
func (s *session) outcome() (x api.Season, w api.World, o api.Outcome) {
	x, w = s.season()
	o, e := season.Play(x)
	require(e)
	return x, w, o
}

func (s *session) play([]int) {
	_, _, o := s.outcome()
	for _, x := range o.Schemes {
		s.print("block", x.Made, x.Free, x.Short)
	}
	for farm := range o.Asked {
		s.print("farm", farm, o.Asked[farm], o.Given[farm], o.Got[farm])
	}
	s.print("rest", o.Rest)
}

func (s *session) farm(n []int) {
	x, _, o := s.outcome()
	owed, e := season.Owed(x)
	require(e)
	farm := n[0]
	if farm < 0 || farm >= len(owed) {
		require(api.ErrArg)
	}
	for _, x := range o.Schemes {
		for i, c := range x.Served {
			if c.Farm == farm {
				s.print("award", x.Made, c.Hour, c.Litres, x.Awards[i])
			}
		}
	}
	s.print("owed", owed[farm])
}

func (s *session) market(n []int) {
	x, w, o := s.outcome()
	m := api.Market{District: x.District, Room: x.District.Tank.Cap, Rain: n[0], Offers: w.Offers}
	for _, x := range o.Schemes {
		week := make([]int, len(m.District.Farms))
		for i, c := range x.Served {
			week[c.Farm] += x.Awards[i]
		}
		m.Awards = append(m.Awards, week)
	}
	set, value, e := winners.Best(m)
	require(e)
	pays, e := settle.Pay(m, set)
	require(e)
	s.print("best", value)
	for i, o := range m.Offers {
		s.print("pays", o.No, pays[i])
	}
}

func (s *session) explain([]int) {
	d, w := s.district()
	x := api.Evidence{Waves: w.Waves, Suspects: w.Suspects}
	sets, e := suspects.Minimal(d, x)
	require(e)
	named, e := suspects.Named(d, x)
	require(e)
	for _, set := range sets {
		s.print("set", set)
	}
	s.print("named", named)
}

func (s *session) judge([]int) {
	w := s.world()
	b, e := judgement.Sit(api.Cases{Sides: w.Sides, Cases: w.Cases}, w.Suits)
	require(e)
	for _, c := range b.Cases[len(w.Cases):] {
		s.print("judged", c.No, c.Winner, c.Reason)
	}
}

func (s *session) known(n []int) {
	value, ok, e := clocks.At(s.world().Facts, n[0], n[1], n[2])
	require(e)
	if !ok {
		s.print("nothing")
		return
	}
	s.print("said", value)
}

func (s *session) turns([]int) {
	l, e := tablets.Turns(api.Book{Slips: s.world().Slips})
	require(e)
	for _, x := range l {
		s.print("turn", x.Turn, x.Farm, x.Given, x.Twice)
	}
}

func (s *session) account(n []int) {
	x, _, o := s.outcome()
	l, e := ledger.Of(x.District, o.Run)
	require(e)
	balance, e := ledger.Balance(l, n[0], n[1], n[2])
	require(e)
	s.print("balance", balance)
}
