// Package schedule computes the parcels that serve what is wanted at the ends of reaches.
package schedule

import (
	"acequia/api"
	"acequia/losses"
)

// Intake returns the least parcel of which so much arrives at worst, if there is one; one that a siphon lets pass.
func Intake(r api.Reach, w int) (v int, ok bool) {
	if w == 0 {
		return 0, true
	}
	v, ok, e := losses.Need(r, w)
	if e != api.OK || !ok {
		return 0, false
	}
	return max(v, r.Siphon), true
}

// Place is a reach and an hour.
type Place [2]int

// Schedule is the least parcels, by the reaches and hours in which they enter, and a fault (LateF) for each one that does not exist.
type Schedule struct {
	Parcels map[Place]api.Parcel
	Late    []api.Fault
}

// Of returns the least schedule for what farms want of a valid district, by reach and hour.
func Of(d api.District, farms map[Place]int) Schedule {
	s := Schedule{Parcels: map[Place]api.Parcel{}}
	wanted, unknown := map[Place]int{}, map[Place]bool{}
	for reach := len(d.Reaches) - 1; reach >= 0; reach-- {
		r := d.Reaches[reach]
		for hour := range d.Hours {
			end := Place{reach, hour}
			litres := wanted[end] + farms[end]
			if litres == 0 && !unknown[end] {
				continue
			}
			up := Place{r.Up, hour - r.Delay}
			v, ok := Intake(r, litres)
			switch {
			case unknown[end]:
				unknown[up] = true
			case !ok || up[1] < 0:
				s.Late = append(s.Late, api.Fault{Kind: api.LateF, Hour: hour, Index: reach, Litres: litres})
				unknown[up] = true
			default:
				s.Parcels[Place{reach, up[1]}] = api.Parcel{Reach: reach, Hour: up[1], Litres: v, Wanted: litres}
				wanted[up] += v
			}
		}
	}
	return s
}
