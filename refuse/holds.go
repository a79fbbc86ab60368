package refuse

import (
	"slices"

	"acequia/api"
	"acequia/losses"
	"acequia/schedule"
)

// Holds reports whether a refusal proves what it says.
func Holds(d api.District, l []api.Deed, from, to, known int, r api.Refusal) (ok bool, e api.Errno) {
	c, e := check(d, l, from, to, known)
	if e != api.OK {
		return false, e
	}
	rights := rightsOf(c)
	for i, x := range r.Rights {
		if i > 0 && x <= r.Rights[i-1] || !slices.Contains(rights, x) {
			return false, api.ErrRefuse
		}
	}
	if !areParcels(d, r.Parcels) {
		return false, api.OK
	}
	p := proven{d: d, r: r, wanted: wanted(d, of(c, r.Rights), r.Parcels)}
	return p.supports() && p.breaks(), api.OK
}

// areParcels reports whether all parcels are possible ones, at most one for each reach and hour.
func areParcels(d api.District, l []api.Parcel) bool {
	there := map[schedule.Place]bool{}
	for _, p := range l {
		at := schedule.Place{p.Reach, p.Hour}
		if p.Reach < 0 || p.Reach >= len(d.Reaches) || p.Hour < 0 || p.Hour >= d.Hours || p.Litres < 1 || p.Litres > api.MaxLitres || there[at] {
			return false
		}
		there[at] = true
	}
	return true
}

// proven is a refusal with what its rights and its parcels want.
type proven struct {
	d      api.District
	r      api.Refusal
	wanted map[schedule.Place]int
}

// supports reports whether each parcel is needed for what is wanted, and no lesser one is enough.
func (p proven) supports() bool {
	for _, x := range p.r.Parcels {
		reach := p.d.Reaches[x.Reach]
		if x.Wanted <= 0 || x.Wanted != p.wanted[schedule.Place{x.Reach, x.Hour + reach.Delay}] {
			return false
		}
		if w, _ := losses.Worst(reach, x.Litres-1); x.Litres != reach.Siphon && w >= x.Wanted {
			return false
		}
	}
	return true
}

// breaks reports whether the parcels break the limit that the refusal names.
func (p proven) breaks() bool {
	if p.r.Reach < 0 || p.r.Reach >= len(p.d.Reaches) || p.r.Hour < 0 || p.r.Hour >= p.d.Hours {
		return false
	}
	reach, hour := p.d.Reaches[p.r.Reach], p.r.Hour
	checks := []func() bool{
		func() bool { return p.r.Kind == api.GateF && p.sum(p.r.Reach, hour, hour) > reach.Cap },
		func() bool { return p.r.Kind == api.BankF && p.sum(p.r.Reach, hour-reach.Delay+1, hour) > reach.Bank },
		func() bool {
			return p.r.Kind == api.TankF && p.r.Reach == 0 && hour == 0 && p.sum(0, 0, p.d.Hours) > p.d.Tank.Start
		},
		func() bool {
			w := p.wanted[schedule.Place{p.r.Reach, hour}]
			most, _ := losses.Worst(reach, api.MaxLitres)
			return p.r.Kind == api.LateF && w > 0 && (hour < reach.Delay || w > most)
		},
	}
	return slices.ContainsFunc(checks, func(broken func() bool) bool { return broken() })
}

// sum adds up the parcels of a reach that enter in some hours.
func (p proven) sum(reach, from, to int) int {
	n := 0
	for _, x := range p.r.Parcels {
		if x.Reach == reach && from <= x.Hour && x.Hour <= to {
			n += x.Litres
		}
	}
	return n
}
