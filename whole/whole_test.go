// Package whole examines the promises that join the layers.
package whole

import (
	"fmt"
	"math/rand"
	"strings"
	"testing"

	"acequia/api"
	"acequia/balance"
	"acequia/certify"
	"acequia/claims"
	"acequia/console"
	"acequia/evidence"
	"acequia/expand"
	"acequia/ledger"
	"acequia/merkle"
	"acequia/refuse"
	"acequia/reports"
	"acequia/season"
	"acequia/timetable"
)

// source returns a random source with three reaches and four farms.
func source(r *rand.Rand) string {
	s := fmt.Sprintf("district vega ;\nseason 12 h ;\nreservoir 300 l holds %d l ;\n", r.Intn(150))
	for i, from := range []string{"", "from r0 ", "from r0 "} {
		lo := r.Intn(2)
		s += fmt.Sprintf("reach r%d %sdelay %d h capacity %d l / 1 h bank %d l evaporation %d l to %d l seepage 0 to 1 / %d ;\n", i, from, 1+r.Intn(2), 15+r.Intn(40), 30+r.Intn(60), lo, lo+r.Intn(3), 4+r.Intn(9))
	}
	for i := range 4 {
		s += fmt.Sprintf("farm f%d on r%d river ;\n", i, r.Intn(3))
	}
	for i := range r.Intn(5) {
		from := r.Intn(12)
		s += fmt.Sprintf("take t%d of f%d rank %d flow %d l / 1 h from %d h to %d h ;\n", i, r.Intn(4), r.Intn(3), 1+r.Intn(15), from, from+r.Intn(12-from))
	}
	return s
}

// list returns a line with random numbers below a greatest one.
func list(r *rand.Rand, word string, many, most int) string {
	for range many {
		word += fmt.Sprint(" ", r.Intn(most))
	}
	return word + "\n"
}

// report returns a random report that can be read.
func report(r *rand.Rand) string {
	s := source(r) + fmt.Sprintln("world", 1+r.Intn(6))
	s += fmt.Sprintln("judgement 1", r.Intn(12), 2, r.Intn(4), 0, 0, 11, 1+r.Intn(9), 0)
	s += fmt.Sprintln("forecast 5 10", 10+r.Intn(60))
	s += fmt.Sprintln("stake 5 0", r.Intn(50), 1+r.Intn(3))
	s += list(r, "inflow", 12, 30)
	for _, word := range []string{"loss", "leak"} {
		for range 3 {
			s += list(r, word, 12, 1001)
		}
	}
	return s
}

func world(t *testing.T, src string) (api.World, api.District, api.Season) {
	t.Helper()
	w, line, e := reports.Read(src)
	if e != api.OK {
		t.Fatalf("Read: %d, line %d of\n%s", e, line, src)
	}
	d, e := expand.Expand(w.Source)
	if e != api.OK {
		t.Fatalf("Expand: %d of\n%s", e, src)
	}
	x := api.Season{District: d, Every: w.Every, Deeds: w.Deeds, Done: w.Done, Judgements: w.Judgements, Stakes: w.Stakes, Weather: w.Weather}
	for _, f := range w.Forecasts {
		f.Seen = make([]int, len(f.Bounds))
		x.Forecasts = append(x.Forecasts, f)
	}
	return w, d, x
}

// P0.13 and P0.14: what is printed is read again, and the console plays the season as it is, also after a crash.
func TestWhole(t *testing.T) {
	r := rand.New(rand.NewSource(1))
	for range 60 {
		src := report(r)
		w, _, x := world(t, src)
		if printed, e := reports.Print(w); e != api.OK || printed != src {
			t.Fatalf("%s is printed as %s", src, printed)
		}
		o, e := season.Play(x)
		if e != api.OK {
			t.Fatalf("season.Play: %d", e)
		}
		want := ""
		for _, s := range o.Schemes {
			short := 0
			if s.Short {
				short = 1
			}
			want += fmt.Sprintln("block", s.Made, s.Free, short)
		}
		for i := range o.Asked {
			want += fmt.Sprintln("farm", i, o.Asked[i], o.Given[i], o.Got[i])
		}
		want += fmt.Sprintln("rest", o.Rest)
		lines := strings.Count(src, "\n")
		script := ". " + strings.ReplaceAll(strings.TrimSuffix(src, "\n"), "\n", "\n. ") + "\nplay\nsave\n. deed\ncrash 2\nplay\n"
		out, at, e := console.Play(script)
		if all := strings.Repeat("ok\n", lines) + want + fmt.Sprintf("saved %d\nok\nopen %d\n", lines, lines) + want; e != api.OK || at != 0 || out != all {
			t.Fatalf("the console says\n%s, not\n%s", out, all)
		}
	}
}

// P0.1, P0.9 and P0.12: every litre stands in one account, what really happened is explained by nobody, and what is missing is paid or owed.
func TestConserved(t *testing.T) {
	r := rand.New(rand.NewSource(2))
	for range 60 {
		_, d, x := world(t, report(r))
		o, _ := season.Play(x)
		if e := balance.Check(d, o.Run); e != api.OK {
			t.Fatalf("the run: %d", e)
		}
		l, e := ledger.Of(d, o.Run)
		if e != api.OK || ledger.Check(l) != api.OK {
			t.Fatalf("the ledger: %d", e)
		}
		for hour := range d.Hours {
			accounts, _ := balance.Accounts(d, o.Run, hour+1)
			sum, source := 0, 0
			for _, a := range accounts {
				sum += a.Litres
			}
			source, _ = ledger.Balance(l, api.LitresS, 0, hour)
			if sum+source != 0 {
				t.Fatalf("%d litres came, %d are there", -source, sum)
			}
			if w, truth, e := evidence.Of(d, o.Run, hour, 0); e == api.OK {
				found := api.Evidence{Waves: []api.Wave{w}}
				ok, _ := evidence.Accepts(d, found, nil, []api.Truth{truth})
				if nobody, _ := evidence.Explains(d, found, nil); !ok || !nobody {
					t.Fatal("what really happened is not explained")
				}
			}
		}
		owed, _ := season.Owed(x)
		for i, n := range owed {
			if n != max(0, o.Asked[i]-o.Given[i]-o.Got[i]) {
				t.Fatalf("the farm %d is owed %d", i, n)
			}
		}
	}
}

// P0.2 and P0.3: there is a timetable that the checker accepts, or a refusal that holds, never both.
func TestServedOrRefused(t *testing.T) {
	r := rand.New(rand.NewSource(3))
	refused := 0
	for range 200 {
		_, d, _ := world(t, report(r))
		from := r.Intn(12)
		c, e := claims.Of(d, nil, from, 11, 0)
		if e != api.OK {
			t.Fatal(e)
		}
		l, served, _ := timetable.Make(d, c)
		x, no, e := refuse.Why(d, nil, from, 11, 0)
		if e != api.OK || served == no {
			t.Fatalf("served %v, refused %v, %d", served, no, e)
		}
		if served {
			if ok, e := certify.Accepts(d, c, l); !ok || e != api.OK {
				t.Fatal("a timetable that is not accepted")
			}
			continue
		}
		refused++
		if ok, e := refuse.Holds(d, nil, from, 11, 0, x); !ok || e != api.OK {
			t.Fatalf("%v does not hold", x)
		}
	}
	if refused < 20 || refused > 180 {
		t.Errorf("%d of 200 are refused", refused)
	}
}

// P0.11: equal ledgers have equal bytes, and one root.
func TestRecorded(t *testing.T) {
	r := rand.New(rand.NewSource(4))
	roots := map[api.Digest]string{}
	for range 30 {
		_, d, x := world(t, report(r))
		o, _ := season.Play(x)
		l, _ := ledger.Of(d, o.Run)
		h, e := ledger.Root(l)
		text := fmt.Sprint(l)
		if old, there := roots[h]; e != api.OK || there && old != text {
			t.Fatalf("two ledgers with one root: %d", e)
		}
		roots[h] = text
		if len(l.Postings) == 0 && h != merkle.Root(nil) {
			t.Fatal("the root of no postings")
		}
	}
}
