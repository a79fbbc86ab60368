// Package losses computes what is lost on the way. See shared/doc/21-losses.md.
package losses

import (
	"iter"

	"acequia/api"
	"acequia/ratio"
)

const (
	mostCoef    = 1000    // denominators of coefficients
	mostDepth   = 1000    // tenths of a millimetre
	wholeDepth  = 240     // what evaporates at most if no pan says less
	perLitre    = 240     // tenths of a millimetre on a square metre in a day, for a litre in an hour
	wholeShares = 1 << 20 // parts of a parcel in which shares are measured
)

// soils are the least and the greatest share that a soil loses in an hour, by class.
var soils = [6][2]int{{0, 64}, {64, 512}, {256, 1024}, {512, 2048}, {1024, 4096}, {2048, 16384}}

func checkSurvey(s api.Survey, delay int) api.Errno {
	if len(s.Pans) > api.MaxPans || len(s.Ponds) > api.MaxPonds {
		return api.ErrLimit
	}
	if !isSurvey(s) {
		return api.ErrLoss
	}
	if delay < 1 || delay > api.MaxDelay {
		return api.ErrArg
	}
	return api.OK
}

func isSurvey(s api.Survey) bool {
	if s.Surface < 0 || s.Surface > api.MaxId || s.Soil < 0 || s.Soil >= len(soils) || !areShares(s.Coef) || s.Coef[0].D > mostCoef || s.Coef[1].D > mostCoef {
		return false
	}
	for _, p := range s.Pans {
		if !isWithin(p.Depth, mostDepth) {
			return false
		}
	}
	for _, p := range s.Ponds {
		if p.Volume < 1 || p.Volume > api.MaxLitres || p.Hours < 1 || p.Hours > api.MaxHours || !isWithin(p.Lost, p.Volume) {
			return false
		}
	}
	return true
}

// isWithin reports whether a range is one of numbers from 0 to a greatest one.
func isWithin(x api.Range, most int) bool { return 0 <= x.Lo && x.Lo <= x.Hi && x.Hi <= most }

// areShares reports whether two ratios are a least and a greatest share.
func areShares(s [2]api.Ratio) bool {
	c, e := ratio.Cmp(s[0], s[1])
	return e == api.OK && c <= 0 && s[0].N >= 0 && s[1].N <= s[1].D
}

// common intersects the ranges of some things with a range.
func common[T any](x api.Range, all iter.Seq[T], of func(T) api.Range) api.Range {
	for y := range all {
		r := of(y)
		x.Lo, x.Hi = max(x.Lo, r.Lo), min(x.Hi, r.Hi)
	}
	return x
}

// depths yields what the pans say; without pans that any usual depth is possible.
func depths(l []api.Pan) iter.Seq[api.Range] {
	return func(yield func(api.Range) bool) {
		if len(l) == 0 {
			yield(api.Range{Hi: wholeDepth})
			return
		}
		for _, p := range l {
			if !yield(p.Depth) {
				return
			}
		}
	}
}

// Evap returns the litres that evaporate from a parcel.
func Evap(s api.Survey, delay int) (x api.Range, e api.Errno) {
	if e = checkSurvey(s, delay); e != api.OK {
		return x, e
	}
	lo, hi := s.Coef[0], s.Coef[1]
	x = common(api.Range{Hi: api.MaxLitres}, depths(s.Pans), func(depth api.Range) api.Range {
		return api.Range{
			Lo: lo.N * depth.Lo * s.Surface * delay / (perLitre * lo.D),
			Hi: ceil(hi.N*depth.Hi*s.Surface*delay, perLitre*hi.D),
		}
	})
	if x.Lo > x.Hi {
		return api.Range{}, api.ErrLoss
	}
	return x, api.OK
}

// ceil returns n / d, rounded up, for n from 0 on.
func ceil(n, d int) int { return (n + d - 1) / d }

// Seep returns the least and the greatest share of a parcel that seeps.
func Seep(s api.Survey, delay int) (x [2]api.Ratio, e api.Errno) {
	if e = checkSurvey(s, delay); e != api.OK {
		return x, e
	}
	soil := soils[s.Soil]
	shares := common(api.Range{Lo: soil[0] * delay, Hi: soil[1] * delay}, ponds(s.Ponds), func(p api.Pond) api.Range {
		below := p.Volume * p.Hours
		return api.Range{Lo: wholeShares * p.Lost.Lo * delay / below, Hi: ceil(wholeShares*p.Lost.Hi*delay, below)}
	})
	shares.Lo, shares.Hi = min(shares.Lo, wholeShares), min(shares.Hi, wholeShares)
	if shares.Lo > shares.Hi {
		return x, api.ErrLoss
	}
	x[0], _ = ratio.Make(shares.Lo, wholeShares)
	x[1], _ = ratio.Make(shares.Hi, wholeShares)
	return x, api.OK
}

func ponds(l []api.Pond) iter.Seq[api.Pond] {
	return func(yield func(api.Pond) bool) {
		for _, p := range l {
			if !yield(p) {
				return
			}
		}
	}
}
