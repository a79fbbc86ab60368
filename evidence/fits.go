package evidence

import (
	"acequia/api"
	"acequia/losses"
)

func contains(r api.Range, n int) bool { return r.Lo <= n && n <= r.Hi }

// fits reports whether a Truth fits a wave with a set of suspects.
func (s *solver) fits(wave, set int, t api.Truth) bool {
	reaches := len(s.d.Reaches)
	if len(t.Heads) != reaches || len(t.Tails) != reaches || len(t.Arrived) != reaches || len(t.Outlets) != len(s.d.Farms) || len(t.Taken) != len(s.x.Suspects) {
		return false
	}
	w := s.x.Waves[wave]
	for i, shown := range w.Outlets {
		if !contains(s.possible(set, api.OutletQ, i, shown), t.Outlets[i]) {
			return false
		}
	}
	for i, q := range s.x.Suspects {
		most := 0
		if q.Kind == api.PumpQ && set>>i&1 == 1 {
			most = q.Most
		}
		if !contains(api.Range{Hi: most}, t.Taken[i]) {
			return false
		}
	}
	for i := range reaches {
		if !contains(s.possible(set, api.HeadQ, i, w.Heads[i]), t.Heads[i]) || !contains(s.possible(set, api.TailQ, i, w.Tails[i]), t.Tails[i]) {
			return false
		}
	}
	return s.isConserved(t)
}

// isConserved reports whether at the end of each reach as much leaves as arrives, and no more or less than can arrive.
func (s *solver) isConserved(t api.Truth) bool {
	out := make([]int, len(s.d.Reaches))
	for i, r := range s.d.Reaches {
		out[i] += t.Tails[i]
		if r.Up >= 0 {
			out[r.Up] += t.Heads[i]
		}
	}
	for i, f := range s.d.Farms {
		out[f.Reach] += t.Outlets[i]
	}
	for i, q := range s.x.Suspects {
		if q.Kind == api.PumpQ {
			out[q.Index] += t.Taken[i]
		}
	}
	for i, r := range s.d.Reaches {
		worst, _ := losses.Worst(r, t.Heads[i])
		best, _ := losses.Best(r, t.Heads[i])
		if t.Arrived[i] != out[i] || !contains(api.Range{Lo: worst, Hi: best}, t.Arrived[i]) {
			return false
		}
	}
	return true
}
