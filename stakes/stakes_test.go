package stakes

import (
	"math/big"
	"math/rand"
	"slices"
	"testing"

	"acequia/api"
	"acequia/calibrate"
)

func stake(body, period, deposit, rate int) api.Stake {
	return api.Stake{Body: body, Period: period, Deposit: deposit, Rate: rate}
}

func past(body int, l ...int) (p api.Past) {
	p.Body = body
	for i := 0; i < len(l); i += 3 {
		p.Bounds, p.Seen = append(p.Bounds, api.Range{Lo: l[i], Hi: l[i+1]}), append(p.Seen, l[i+2])
	}
	return p
}

// P38.1 and P38.3: errors in their order.
func TestErrors(t *testing.T) {
	good := []api.Stake{stake(0, 0, 1, 1)}
	for i, x := range []struct {
		l    []api.Stake
		last []api.Past
		want api.Errno
	}{
		{make([]api.Stake, 257), nil, api.ErrLimit}, {[]api.Stake{stake(64, 0, 0, 0)}, make([]api.Past, 257), api.ErrStake}, {[]api.Stake{stake(-1, 0, 0, 0)}, nil, api.ErrStake}, {[]api.Stake{stake(0, 16, 0, 0)}, nil, api.ErrStake}, {[]api.Stake{stake(0, 0, 1<<30+1, 0)}, nil, api.ErrStake}, {[]api.Stake{stake(0, 0, 0, 1<<20+1)}, nil, api.ErrStake}, {[]api.Stake{stake(0, 0, -1, 0)}, nil, api.ErrStake},
		{[]api.Stake{stake(0, 1, 0, 0), stake(0, 1, 0, 0)}, nil, api.ErrStake}, {[]api.Stake{stake(1, 1, 0, 0), stake(0, 2, 0, 0)}, nil, api.ErrStake}, {good, make([]api.Past, 257), api.ErrLimit}, {good, []api.Past{past(0)}, api.ErrPast}, {good, []api.Past{past(1, 0, 0, 0), past(1, 0, 0, 0)}, api.ErrStake}, {good, []api.Past{past(2, 0, 0, 0), past(1, 0, 0, 0)}, api.ErrStake},
	} {
		n, e := Forfeit(x.l, x.last, -1)
		paid, got, rest, f := Settle(x.l, x.last, make([]int, 601))
		if e != x.want || f != x.want || n != 0 || paid != nil || got != nil || rest != 0 {
			t.Errorf("case %d: %d, %d, want %d", i, e, f, x.want)
		}
	}
	if Check(nil) != api.OK || Check([]api.Stake{stake(0, 15, 1<<30, 1<<20), stake(63, 0, 0, 0)}) != api.OK {
		t.Error("valid stakes")
	}
	for _, i := range []int{-1, 1} {
		if _, e := Forfeit(good, nil, i); e != api.ErrArg {
			t.Errorf("the stake %d", i)
		}
	}
	if _, e := Forfeit(nil, nil, 0); e != api.ErrArg {
		t.Error("no stakes")
	}
	for _, x := range []struct {
		claims []int
		want   api.Errno
	}{{make([]int, 601), api.ErrLimit}, {[]int{-1}, api.ErrStake}, {[]int{1<<30 + 1}, api.ErrStake}} {
		if _, _, _, e := Settle(good, nil, x.claims); e != x.want {
			t.Errorf("Settle: %d, want %d", e, x.want)
		}
	}
}

// P38.1: what is forfeited.
func TestForfeit(t *testing.T) {
	l := []api.Stake{stake(3, 0, 10, 3), stake(3, 1, 1<<30, 1<<20), stake(3, 2, 5, 5), stake(4, 0, 5, 5)}
	for i, x := range []struct{ lo, hi, seen, first, second int }{{5, 9, 11, 6, 0}, {5, 9, 0, 10, 0}, {5, 9, 9, 0, 0}, {5, 9, 5, 0, 0}, {5, 9, 4, 3, 1 << 30}} {
		other := 0
		if x.second > 0 {
			other = 1 << 40
		}
		last := []api.Past{past(1, 0, 0, 9), past(3, x.lo, x.hi, x.seen, 0, 0, other)}
		for k, want := range []int{x.first, x.second, 0, 0} {
			if n, e := Forfeit(l, last, k); n != want || e != api.OK {
				t.Errorf("case %d, stake %d: %d", i, k, n)
			}
		}
	}
}

// P38.2: greatest remainders.
func TestShare(t *testing.T) {
	for i, x := range []struct {
		total   int
		weights []int
		s       []int
		rest    int
		e       api.Errno
	}{
		{10, []int{1, 1, 1}, []int{4, 3, 3}, 0, 0}, {2, []int{1, 1, 1}, []int{1, 1, 0}, 0, 0}, {7, nil, nil, 7, 0}, {7, []int{0, 0}, []int{0, 0}, 7, 0}, {10, []int{1, 2, 0, 4}, []int{1, 3, 0, 6}, 0, 0}, {0, []int{5}, []int{0}, 0, 0}, {1 << 40, []int{1 << 30, 1 << 30}, []int{1 << 39, 1 << 39}, 0, 0},
		{-1, []int{0}, nil, 0, api.ErrStake}, {1<<40 + 1, []int{0}, nil, 0, api.ErrStake}, {1, []int{-1}, nil, 0, api.ErrStake}, {1, []int{1<<30 + 1}, nil, 0, api.ErrStake}, {-1, make([]int, 601), nil, 0, api.ErrLimit}, {0, make([]int, 600), make([]int, 600), 0, 0},
	} {
		if s, rest, e := Share(x.total, x.weights); !slices.Equal(s, x.s) || rest != x.rest || e != x.e {
			t.Errorf("case %d: %v, %d, %d", i, s, rest, e)
		}
	}
}

// P38.4 and P38.5: money is conserved, and bounds that held cost nothing.
func TestSettle(t *testing.T) {
	r := rand.New(rand.NewSource(38))
	for range 500 {
		var l []api.Stake
		var last []api.Past
		for body := range 4 {
			for period := range 3 {
				if r.Intn(2) == 0 {
					l = append(l, stake(body, period, r.Intn(9), r.Intn(4)))
				}
			}
			if r.Intn(3) > 0 {
				last = append(last, past(body, 5, 5+r.Intn(5), r.Intn(15), 3, 9, r.Intn(15)))
			}
		}
		claims := make([]int, r.Intn(4))
		sum := 0
		for i := range claims {
			claims[i] = r.Intn(3)
			sum += claims[i]
		}
		paid, got, rest, e := Settle(l, last, claims)
		total := rest
		for i, n := range got {
			total += n
			if claims[i] == 0 && n > 0 {
				t.Fatal("a farm without a claim")
			}
		}
		for i, n := range paid {
			total -= n
			x := l[i]
			alone := slices.DeleteFunc(slices.Clone(last), func(p api.Past) bool { return p.Body != x.Body })
			same, _ := Forfeit([]api.Stake{x}, alone, 0)
			fails, _ := calibrate.Fails(alone, x.Body)
			failed := slices.Contains(fails, [2]int{0, x.Period})
			if n > x.Deposit || n != same || n > 0 && !failed || n == 0 && failed && x.Rate > 0 && x.Deposit > 0 {
				t.Fatalf("%v pays %d", x, n)
			}
		}
		if e != api.OK || total != 0 || len(paid) != len(l) || len(got) != len(claims) || rest > 0 && sum > 0 {
			t.Fatalf("%v, %v, %d, %d", paid, got, rest, e)
		}
	}
}

// P38.6 and P38.7: quotas; greater rates, deposits and narrower bounds.
func TestLaws(t *testing.T) {
	r := rand.New(rand.NewSource(39))
	for range 500 {
		weights := make([]int, 1+r.Intn(8))
		sum := 0
		for i := range weights {
			weights[i] = r.Intn(1 << r.Intn(31))
			sum += weights[i]
		}
		total := r.Intn(1 << r.Intn(41))
		s, _, _ := Share(total, weights)
		for i, w := range weights {
			exact := new(big.Int).Mul(big.NewInt(int64(total)), big.NewInt(int64(w)))
			low := exact.Div(exact, big.NewInt(int64(max(1, sum)))).Int64()
			if sum > 0 && (int64(s[i]) < low || int64(s[i]) > low+1) {
				t.Fatalf("%d of %d", s[i], total)
			}
			for k, v := range weights {
				if w > v && s[i] < s[k] || w == v && max(s[i]-s[k], s[k]-s[i]) > 1 {
					t.Fatalf("%v shared as %v", weights, s)
				}
			}
		}
		lo, hi, seen := 3+r.Intn(5), 8+r.Intn(5), r.Intn(20)
		x := stake(0, 0, r.Intn(20), r.Intn(5))
		of := func(x api.Stake, lo, hi int) int {
			n, _ := Forfeit([]api.Stake{x}, []api.Past{past(0, lo, hi, seen)}, 0)
			return n
		}
		more, richer := x, x
		more.Rate++
		richer.Deposit++
		if n := of(x, lo, hi); of(x, lo-1, hi) > n || of(x, lo, hi+1) > n || of(more, lo, hi) < n || of(richer, lo, hi) < n {
			t.Fatalf("%v", x)
		}
	}
}
