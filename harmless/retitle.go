package harmless

import (
	"cmp"
	"slices"

	"acequia/api"
)

// title is a claim without its litres.
type title struct{ hour, rank, right, farm int }

func titleOf(c api.Claim) title { return title{c.Hour, c.Rank, c.Right, c.Farm} }

func compare(a, b title) int {
	return cmp.Or(cmp.Compare(a.hour, b.hour), cmp.Compare(a.rank, b.rank), cmp.Compare(a.right, b.right), cmp.Compare(a.farm, b.farm))
}

func areClaims(l []api.Claim) bool {
	for i, c := range l {
		valid := isIndex(c.Right, api.MaxRights) && isIndex(c.Farm, api.MaxFarms) && isIndex(c.Hour, api.MaxHours) && within(c.Litres, 1, api.MaxLitres) && within(c.Rank, 0, api.MaxId)
		if !valid || i > 0 && compare(titleOf(l[i-1]), titleOf(c)) >= 0 {
			return false
		}
	}
	return true
}

// Retitle turns claims of a farm into claims of another one.
func Retitle(l []api.Claim, from, to, hour, litres, got int) (x []api.Claim, e api.Errno) {
	if len(l) > api.MaxClaims {
		return nil, api.ErrLimit
	}
	if !areClaims(l) {
		return nil, api.ErrDeal
	}
	if !isIndex(from, api.MaxFarms) || !isIndex(to, api.MaxFarms) || from == to || !isIndex(hour, api.MaxHours) || !within(litres, 1, api.MaxLitres) || !within(got, 0, api.MaxLitres) {
		return nil, api.ErrArg
	}
	claims := map[title]int{}
	has := 0
	for _, c := range l {
		claims[titleOf(c)] = c.Litres
		if c.Farm == from && c.Hour == hour {
			has += c.Litres
		}
	}
	if has < litres {
		return nil, api.ErrDeal
	}
	taken := 0
	for _, c := range slices.Backward(l) {
		if c.Farm != from || c.Hour != hour {
			continue
		}
		part := min(c.Litres, litres-taken)
		claims[titleOf(c)] -= part
		c.Farm = to
		claims[titleOf(c)] += (taken+part)*got/litres - taken*got/litres
		taken += part
	}
	return listed(claims)
}

// listed returns claims in order, those of 0 litres left out.
func listed(claims map[title]int) (l []api.Claim, e api.Errno) {
	for t, litres := range claims {
		if litres > api.MaxLitres {
			return nil, api.ErrDeal
		}
		if litres > 0 {
			l = append(l, api.Claim{Right: t.right, Farm: t.farm, Hour: t.hour, Litres: litres, Rank: t.rank})
		}
	}
	if len(l) > api.MaxClaims {
		return nil, api.ErrLimit
	}
	slices.SortFunc(l, func(a, b api.Claim) int { return compare(titleOf(a), titleOf(b)) })
	return l, api.OK
}
