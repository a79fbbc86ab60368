package evidence

import (
	"iter"

	"acequia/api"
	"acequia/losses"
)

// device is a kind of suspects with an index.
type device struct{ kind, index int }

// place is the end of a reach in a wave, with the suspects of a set that are below it.
type place struct{ wave, reach, set int }

// solver finds what could really have happened in the waves of an evidence.
type solver struct {
	d        api.District
	x        api.Evidence
	suspects map[device]int
	below    []int               // by reach: the suspects, as bits, at the reach and below it
	heads    map[place]api.Range // the possible heads, as far as they are known
}

func solverOf(d api.District, x api.Evidence) *solver {
	s := &solver{d: d, x: x, suspects: map[device]int{}, below: make([]int, len(d.Reaches)), heads: map[place]api.Range{}}
	for i, q := range x.Suspects {
		s.suspects[device{q.Kind, q.Index}] = i
		reach := q.Index
		if q.Kind == api.OutletQ {
			reach = d.Farms[q.Index].Reach
		}
		s.below[reach] |= 1 << i
	}
	for i := len(d.Reaches) - 1; i > 0; i-- {
		s.below[d.Reaches[i].Up] |= s.below[i]
	}
	return s
}

// suspect returns the suspect of a set that is a device.
func (s *solver) suspect(set, kind, index int) (i int, ok bool) {
	i, ok = s.suspects[device{kind, index}]
	return i, ok && set>>i&1 == 1
}

// possible returns the numbers that are possible where a meter shows a range.
func (s *solver) possible(set, kind, index int, shown api.Range) api.Range {
	if i, ok := s.suspect(set, kind, index); ok {
		return api.Range{Hi: max(shown.Hi, s.x.Suspects[i].Most)}
	}
	return shown
}

// leaving yields what leaves at the end of a reach: where it is recorded, and which numbers are possible. Of the children these are
// the possible heads.
func (s *solver) leaving(at place, t *api.Truth) iter.Seq2[*int, api.Range] {
	wave := s.x.Waves[at.wave]
	return func(yield func(*int, api.Range) bool) {
		for i, r := range s.d.Reaches {
			if r.Up == at.reach && !yield(&t.Heads[i], s.head(place{at.wave, i, at.set})) {
				return
			}
		}
		for i, f := range s.d.Farms {
			if f.Reach == at.reach && !yield(&t.Outlets[i], s.possible(at.set, api.OutletQ, i, wave.Outlets[i])) {
				return
			}
		}
		if i, ok := s.suspect(at.set, api.PumpQ, at.reach); ok && !yield(&t.Taken[i], api.Range{Hi: s.x.Suspects[i].Most}) {
			return
		}
		yield(&t.Tails[at.reach], s.possible(at.set, api.TailQ, at.reach, wave.Tails[at.reach]))
	}
}

// empty returns a Truth in which nothing has been found yet.
func (s *solver) empty() *api.Truth {
	reaches := len(s.d.Reaches)
	return &api.Truth{
		Heads: make([]int, reaches), Outlets: make([]int, len(s.d.Farms)), Tails: make([]int, reaches), Arrived: make([]int, reaches), Taken: make([]int, len(s.x.Suspects)),
	}
}

func none() api.Range { return api.Range{Lo: 1, Hi: 0} }

// head returns the heads of a reach with which something could have happened at it and below it. They are a range: of
// what arrives of a greater parcel, both ends are no lesser ones.
func (s *solver) head(at place) api.Range {
	at.set &= s.below[at.reach]
	x, known := s.heads[at]
	if !known {
		x = s.findHead(at)
		s.heads[at] = x
	}
	return x
}

func (s *solver) findHead(at place) api.Range {
	out, ok := s.out(at)
	if !ok || out.Lo > api.MaxLitres {
		return none()
	}
	r := s.d.Reaches[at.reach]
	least, ok, _ := losses.Reachable(r, out.Lo)
	most, _ := losses.Most(r, min(out.Hi, api.MaxLitres))
	x := s.possible(at.set, api.HeadQ, at.reach, s.x.Waves[at.wave].Heads[at.reach])
	x = api.Range{Lo: max(x.Lo, least), Hi: min(x.Hi, most)}
	if !ok || x.Lo > x.Hi {
		return none()
	}
	return x
}

// out returns how much can leave at the end of a reach, if something can have happened below it.
func (s *solver) out(at place) (sum api.Range, ok bool) {
	for _, r := range s.leaving(at, s.empty()) {
		if r == none() {
			return sum, false
		}
		sum.Lo, sum.Hi = sum.Lo+r.Lo, sum.Hi+r.Hi
	}
	return sum, true
}

// explains reports whether a set explains all waves.
func (s *solver) explains(set int) bool {
	for wave := range s.x.Waves {
		if s.head(place{wave, 0, set}) == none() {
			return false
		}
	}
	return true
}

// truth returns what could have happened in a wave that is explained.
func (s *solver) truth(wave, set int) api.Truth {
	t := s.empty()
	t.Heads[0] = s.head(place{wave, 0, set}).Lo
	for i, r := range s.d.Reaches {
		at := place{wave, i, set}
		out, _ := s.out(at)
		worst, _ := losses.Worst(r, t.Heads[i])
		t.Arrived[i] = max(worst, out.Lo)
		// Everything that leaves has its least number at first; what is left over is given to whoever can have more.
		rest := t.Arrived[i] - out.Lo
		for n, x := range s.leaving(at, t) {
			more := min(rest, x.Hi-x.Lo)
			*n = x.Lo + more
			rest -= more
		}
	}
	return *t
}
