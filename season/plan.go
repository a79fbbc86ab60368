package season

import (
	"cmp"
	"slices"

	"acequia/api"
	"acequia/claims"
	"acequia/division"
	"acequia/duties"
	"acequia/garment"
	"acequia/judgement"
	"acequia/timetable"
)

// planner plans the blocks of a valid season.
type planner struct {
	x    api.Season
	full api.District // the district, with a reservoir that has enough for everything
	ways []int        // by farm
}

func plannerOf(x api.Season) planner {
	p := planner{x: x, full: x.District, ways: waysOf(x.District)}
	p.full.Tank = api.Tank{Cap: api.MaxNum, Start: api.MaxNum}
	return p
}

// wave returns the hour in which the water of a claim enters the reach 0.
func (p planner) wave(c api.Claim) int { return c.Hour - p.ways[c.Farm] }

// Plan plans a block.
func Plan(x api.Season, made, free int, before []api.Claim) (s api.Scheme, e api.Errno) {
	if e = Check(x); e != api.OK {
		return s, e
	}
	for hours := range blocks(x) {
		if hours.Lo == made && free >= 0 && free <= api.MaxNum {
			return plannerOf(x).plan(hours, free, before)
		}
	}
	return s, api.ErrArg
}

// plan plans the block of some hours.
func (p planner) plan(hours api.Range, free int, before []api.Claim) (s api.Scheme, e api.Errno) {
	if e = claims.Check(p.x.District, before); e != api.OK {
		return s, e
	}
	if slices.ContainsFunc(before, func(c api.Claim) bool { return p.wave(c) >= hours.Lo }) || !p.isServed(before) {
		return s, api.ErrSeason
	}
	all, e := p.inForce(hours)
	if e != api.OK {
		return s, e
	}
	s = api.Scheme{Made: hours.Lo, Hours: hours, Free: free, Claims: all}
	seniors := slices.Clone(all)
	slices.SortFunc(seniors, by(rank, right, farm, hour))
	s.Served = p.keep(before, nil, seniors)
	s.Awards, s.Short = p.award(s)
	return s, api.OK
}

// isServed reports whether claims can be served, whatever the reservoir has.
func (p planner) isServed(c []api.Claim) bool {
	_, ok, e := timetable.Make(p.full, c)
	return ok && e == api.OK
}

// inForce returns the claims of a block, as they are known when it is made.
func (p planner) inForce(hours api.Range) (c []api.Claim, e api.Errno) {
	x, made, longest := p.x, hours.Lo, 0
	for _, way := range p.ways {
		longest = max(longest, way)
	}
	last := min(x.District.Hours-1, hours.Hi+longest)
	if c, e = claims.Of(x.District, x.Deeds, made, last, made); e != api.OK {
		return nil, e
	}
	c = slices.DeleteFunc(c, func(y api.Claim) bool { return p.wave(y) < hours.Lo || p.wave(y) > hours.Hi })
	if c, e = duties.Active(x.District, x.Done, c, made); e != api.OK {
		return nil, e
	}
	given := slices.DeleteFunc(slices.Clone(x.Judgements), func(j api.Judgement) bool { return j.Hour > made })
	return judgement.Execute(x.District, c, given)
}

// by returns the comparison of numbers of claims, one after the other.
func by(numbers ...func(c api.Claim) int) func(a, b api.Claim) int {
	return func(a, b api.Claim) int {
		for _, n := range numbers {
			if c := cmp.Compare(n(a), n(b)); c != 0 {
				return c
			}
		}
		return 0
	}
}

func rank(c api.Claim) int  { return c.Rank }
func right(c api.Claim) int { return c.Right }
func farm(c api.Claim) int  { return c.Farm }
func hour(c api.Claim) int  { return c.Hour }

// inOrder returns claims in the order of chapter 26.
func inOrder(lists ...[]api.Claim) []api.Claim {
	l := slices.Concat(lists...)
	slices.SortFunc(l, by(hour, rank, right, farm))
	return l
}

// keep adds to kept claims those that can be served with them and with earlier ones. Whatever is served together is served with
// any of its claims left out, so claims that can be served all together need not be tried one by one.
func (p planner) keep(before, kept, next []api.Claim) []api.Claim {
	if len(next) == 0 {
		return kept
	}
	if p.isServed(inOrder(before, kept, next)) {
		return inOrder(kept, next)
	}
	if len(next) == 1 {
		return kept
	}
	half := len(next) / 2
	return p.keep(before, p.keep(before, kept, next[:half]), next[half:])
}

// award returns what is awarded to the claims that are served, and whether the free litres do not cover them.
func (p planner) award(s api.Scheme) (awards []int, short bool) {
	d := p.x.District
	var litres [][]int // by hour of the block and farm
	var needs []int
	sum := 0
	for range s.Hours.Hi - s.Hours.Lo + 1 {
		litres = append(litres, make([]int, len(d.Farms)))
	}
	for _, c := range s.Served {
		litres[p.wave(c)-s.Hours.Lo][c.Farm] += c.Litres
		awards = append(awards, c.Litres)
	}
	for _, l := range litres {
		heads, _, _ := division.Needs(d, l)
		needs = append(needs, heads[0])
		sum += heads[0]
	}
	if sum <= s.Free {
		return awards, false
	}
	parts, _ := garment.Award(s.Free, needs)
	for k, l := range litres {
		cut, _ := division.Divide(d, l, parts[k])
		litres[k] = cut.Awards
	}
	for i, c := range s.Served {
		left := &litres[p.wave(c)-s.Hours.Lo][c.Farm]
		awards[i] = min(c.Litres, *left)
		*left -= awards[i]
	}
	return awards, true
}
