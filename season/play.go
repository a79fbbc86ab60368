package season

import (
	"slices"

	"acequia/api"
	"acequia/ratio"
	"acequia/routing"
	"acequia/stakes"
)

// player is a season while it is played.
type player struct {
	planner
	store   int
	awarded []api.Claim
	orders  []api.Order
	gates   map[[2]int]int // by reach and hour
	outlets map[[2]int]int // by farm and hour
	o       api.Outcome
}

func lists(many, hours int) [][]int {
	l := make([][]int, many)
	for i := range l {
		l[i] = make([]int, hours)
	}
	return l
}

func playerOf(x api.Season) *player {
	d := x.District
	reaches, farms := len(d.Reaches), len(d.Farms)
	p := &player{planner: plannerOf(x), store: d.Tank.Start}
	p.o.Run = api.Run{
		Inflow: slices.Clone(x.Weather.Inflow), Spill: make([]int, d.Hours), In: lists(reaches, d.Hours), Evap: lists(reaches, d.Hours),
		Seep: lists(reaches, d.Hours), Taken: lists(farms, d.Hours), Tail: lists(reaches, d.Hours),
	}
	p.o.Asked, p.o.Given = make([]int, farms), make([]int, farms)
	return p
}

// Play plays a season.
func Play(x api.Season) (o api.Outcome, e api.Errno) {
	if e = Check(x); e != api.OK {
		return o, e
	}
	p := playerOf(x)
	for hours := range blocks(x) {
		if e = p.block(hours); e != api.OK {
			return o, e
		}
		for hour := hours.Lo; hour <= hours.Hi; hour++ {
			p.hour(hour)
		}
	}
	if e = p.settle(); e != api.OK {
		return o, e
	}
	p.o.Orders = p.orders
	return p.o, api.OK
}

// block plans a block, and opens the gates for all that has been awarded.
func (p *player) block(hours api.Range) api.Errno {
	s, e := p.plan(hours, p.store, p.awarded)
	if e != api.OK {
		return e
	}
	p.o.Schemes = append(p.o.Schemes, s)
	for _, c := range s.Claims {
		p.o.Asked[c.Farm] += c.Litres
	}
	var next []api.Claim
	for i, c := range s.Served {
		if c.Litres = s.Awards[i]; c.Litres > 0 {
			next = append(next, c)
		}
	}
	p.awarded = inOrder(p.awarded, next)
	return p.open()
}

// open finds the orders for all that has been awarded.
func (p *player) open() api.Errno {
	p.gates, p.outlets = map[[2]int]int{}, map[[2]int]int{}
	for _, c := range p.awarded {
		p.outlets[[2]int{c.Farm, c.Hour}] += c.Litres
	}
	var out []api.Order
	for hour := range p.x.District.Hours {
		for farm := range p.x.District.Farms {
			if litres := p.outlets[[2]int{farm, hour}]; litres > 0 {
				out = append(out, api.Order{Hour: hour, Index: farm, Litres: litres, Outlet: true})
			}
		}
	}
	orders, ok, e := routing.Plan(p.x.District, out)
	if e != api.OK {
		return e
	}
	if !ok {
		return api.ErrSeason
	}
	p.orders = orders
	for _, o := range orders {
		if !o.Outlet {
			p.gates[[2]int{o.Index, o.Hour}] = o.Litres
		}
	}
	return api.OK
}

// lose returns what a parcel loses, where t and u say where in their intervals its losses lie.
func lose(r api.Reach, v, t, u int) (evap, seep int) {
	evap = min(v, r.Evap.Lo+(r.Evap.Hi-r.Evap.Lo)*t/thousandth)
	least, _, _ := ratio.Times(r.Seep[0], v)
	_, most, _ := ratio.Times(r.Seep[1], v)
	return evap, min(v-evap, least+(most-least)*u/thousandth)
}

// hour lets an hour pass.
func (p *player) hour(hour int) {
	d, run := p.x.District, &p.o.Run
	enter := func(reach, v int) {
		run.In[reach][hour] = v
		run.Evap[reach][hour], run.Seep[reach][hour] = lose(d.Reaches[reach], v, p.x.Weather.Evap[reach][hour], p.x.Weather.Seep[reach][hour])
	}
	for i, r := range d.Reaches {
		enter(i, p.gates[[2]int{i, hour}])
		if entered := hour - r.Delay; entered >= 0 {
			run.Tail[i][hour] += run.In[i][entered] - run.Evap[i][entered] - run.Seep[i][entered]
		}
		if r.Up >= 0 {
			run.Tail[r.Up][hour] -= run.In[i][hour]
		}
	}
	for i, f := range d.Farms {
		run.Taken[i][hour] = p.outlets[[2]int{i, hour}]
		run.Tail[f.Reach][hour] -= run.Taken[i][hour]
		p.o.Given[i] += run.Taken[i][hour]
	}
	p.store += run.Inflow[hour] - run.In[0][hour]
	run.Spill[hour] = max(0, p.store-d.Tank.Cap)
	p.store -= run.Spill[hour]
}

// settle settles the stakes, with the inflow that was seen in each block.
func (p *player) settle() (e api.Errno) {
	var seen, missing []int
	for hours := range blocks(p.x) {
		sum := 0
		for _, n := range p.x.Weather.Inflow[hours.Lo : hours.Hi+1] {
			sum += n
		}
		seen = append(seen, sum)
	}
	last := slices.Clone(p.x.Forecasts)
	for i := range last {
		last[i].Seen = seen[:len(last[i].Bounds)]
	}
	for i := range p.o.Asked {
		missing = append(missing, min(api.MaxLitres, p.o.Asked[i]-p.o.Given[i]))
	}
	p.o.Paid, p.o.Got, p.o.Rest, e = stakes.Settle(p.x.Stakes, last, missing)
	return e
}
