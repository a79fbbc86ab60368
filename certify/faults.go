package certify

import (
	"iter"

	"acequia/api"
)

// gates yields the gate orders, by hour and reach, that break a limit of their reach.
func (t plan) gates(limit func(r api.Reach) int, breaks func(litres, limit int) bool) iter.Seq[api.Fault] {
	return func(yield func(api.Fault) bool) {
		for _, o := range t.list {
			if o.Outlet {
				continue
			}
			most := limit(t.d.Reaches[o.Index])
			if breaks(o.Litres, most) && !yield(api.Fault{Hour: o.Hour, Index: o.Index, Litres: o.Litres, Limit: most}) {
				return
			}
		}
	}
}

func (t plan) tooGreat() iter.Seq[api.Fault] {
	return t.gates(func(r api.Reach) int { return r.Cap }, func(litres, limit int) bool { return litres > limit })
}

func (t plan) tooSmall() iter.Seq[api.Fault] {
	return t.gates(func(r api.Reach) int { return r.Siphon }, func(litres, limit int) bool { return litres < limit })
}

// overBank yields the hours and reaches in which too much can be in a reach.
func (t plan) overBank() iter.Seq[api.Fault] {
	return func(yield func(api.Fault) bool) {
		for hour := range t.d.Hours {
			for i, r := range t.d.Reaches {
				n := 0
				for k := range r.Delay {
					n += t.orders[opening{false, i, hour - k}]
				}
				if n > r.Bank && !yield(api.Fault{Hour: hour, Index: i, Litres: n, Limit: r.Bank}) {
					return
				}
			}
		}
	}
}

// overdrawn yields the first hour in which the reservoir has too little.
func (t plan) overdrawn() iter.Seq[api.Fault] {
	return func(yield func(api.Fault) bool) {
		n := 0
		for hour := range t.d.Hours {
			if n += t.orders[opening{false, 0, hour}]; n > t.d.Tank.Start {
				yield(api.Fault{Hour: hour, Litres: n, Limit: t.d.Tank.Start})
				return
			}
		}
	}
}

// missing yields the hours and reaches in which more is drawn than arrives at worst.
func (t plan) missing() iter.Seq[api.Fault] {
	return func(yield func(api.Fault) bool) {
		for hour := range t.d.Hours {
			for i, litres := range t.drawn(hour) {
				if w := t.arrives(i, hour); litres > w && !yield(api.Fault{Hour: hour, Index: i, Litres: litres, Limit: w}) {
					return
				}
			}
		}
	}
}

// unserved yields the hours and farms in which less is ordered than claimed.
func (t plan) unserved(c []api.Claim) iter.Seq[api.Fault] {
	claimed := map[opening]int{}
	for _, x := range c {
		claimed[opening{true, x.Farm, x.Hour}] += x.Litres
	}
	return func(yield func(api.Fault) bool) {
		for hour := range t.d.Hours {
			for i := range t.d.Farms {
				at := opening{true, i, hour}
				if n := t.orders[at]; n < claimed[at] && !yield(api.Fault{Hour: hour, Index: i, Litres: n, Limit: claimed[at]}) {
					return
				}
			}
		}
	}
}
