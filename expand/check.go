package expand

import (
	"acequia/api"
	"acequia/ratio"
)

// Check validates a district.
func Check(d api.District) (e api.Errno) {
	if len(d.Reaches) > api.MaxReaches || len(d.Farms) > api.MaxFarms || len(d.Crops) > api.MaxCrops || len(d.Rights) > api.MaxRights || len(d.Duties) > api.MaxDuties {
		return api.ErrLimit
	}
	if !isValid(d) {
		return api.ErrDistrict
	}
	return api.OK
}

// ordered reports whether numbers do not decrease.
func ordered(l ...int) bool {
	for i := 1; i < len(l); i++ {
		if l[i-1] > l[i] {
			return false
		}
	}
	return true
}

func isIndex(i, n int) bool { return i >= 0 && i < n }

// isValid reports whether a district is valid, however many rights it has.
func isValid(d api.District) bool {
	if !ordered(1, d.Hours, api.MaxHours) || !ordered(0, d.Tank.Start, d.Tank.Cap, api.MaxNum) || len(d.Reaches) == 0 || d.Reaches[0].Up != -1 {
		return false
	}
	for i, r := range d.Reaches {
		if i > 0 && !isIndex(r.Up, i) || !isReach(r) {
			return false
		}
	}
	for _, c := range d.Crops {
		if !ordered(0, c.Need, api.MaxId) {
			return false
		}
	}
	for _, f := range d.Farms {
		if !isFarm(d, f) {
			return false
		}
	}
	for _, r := range d.Rights {
		if !isRight(d, r) {
			return false
		}
	}
	for _, x := range d.Duties {
		if !isIndex(x.Farm, len(d.Farms)) || !isIndex(x.Reach, len(d.Reaches)) || !ordered(0, x.Due, d.Hours) {
			return false
		}
	}
	return true
}

func isReach(r api.Reach) bool {
	if !ordered(1, r.Delay, api.MaxDelay) || !ordered(0, r.Cap, api.MaxLitres) || !ordered(0, r.Bank, api.MaxNum) {
		return false
	}
	if !ordered(0, r.Siphon, min(r.Cap, r.Bank)) || !ordered(0, r.Evap.Lo, r.Evap.Hi, api.MaxLitres) {
		return false
	}
	c, e := ratio.Cmp(r.Seep[0], r.Seep[1])
	return e == api.OK && c <= 0 && r.Seep[0].N >= 0 && r.Seep[1].N <= r.Seep[1].D
}

func isFarm(d api.District, f api.Farm) bool {
	if !isIndex(f.Reach, len(d.Reaches)) || !ordered(0, f.Area, api.MaxId) {
		return false
	}
	if f.Area == 0 {
		return f.Crop == -1
	}
	return isIndex(f.Crop, len(d.Crops))
}

func isRight(d api.District, r api.Right) bool {
	if !isIndex(r.Farm, len(d.Farms)) || !isIndex(r.Reach, len(d.Reaches)) || !ordered(0, r.From, r.To, d.Hours-1) {
		return false
	}
	switch r.Kind {
	case api.TakeR:
		return r.Reach == 0 && ordered(0, r.Rank, api.MaxId) && ordered(1, r.Litres, api.MaxLitres) && ordered(1, r.Length, r.Every, d.Hours)
	case api.OwnR, api.EaseR:
		whole := r.From == 0 && r.To == d.Hours-1
		return r.Rank == 0 && r.Litres == 0 && r.Every == 0 && r.Length == 0 && (r.Kind == api.EaseR || whole)
	}
	return false
}
