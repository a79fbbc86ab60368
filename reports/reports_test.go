package reports

import (
	"fmt"
	"math/rand"
	"reflect"
	"strings"
	"testing"

	"acequia/api"
	"acequia/names"
	"acequia/syntax"
)

const vega = `district vega ;
season 12 h ;
reservoir 300 l holds 200 l ;
let q = 60 l / 1 h ;
reach head delay 1 h capacity q bank 100 l evaporation 1 l to 2 l seepage 0 to 1 / 10 ;
farm east on head river ;
take t1 of east rank 2 flow 6 l / 1 h from 0 h to 11 h ;
duty clean of east reach head by 6 h ;
`

// rest has each kind of lines.
const rest = `world 4
deed 1 2 0 0 0 0 3 -4 0 1 2 1 1 2
deed 2 4 0 0 0 1 0 5
done 3 0 12 14
judgement 1 2 3 4 5 6 7 8 0
forecast 5 1 2 3 4
forecast 6
stake 5 0 10 3
inflow 5 0 7
loss 1 2
loss
leak 1000
offer 1 0 -5 0 10 0 -3 1 4
offer 2 0 5 0 10
suspect 1 0 9
wave 3 1 2 1 2 3 4 5 6 7 8
wave 4 0 0
fact 1 2 -3 4 5 6
slip 0 0 1 5 0 3 7 0
sides 0 1 1
case 1 2 0 2 0 1 0
case 2 3 1 0
suit 4 5 -1 1 2 3 4
clause 0 1 2 1 -3 4
clause 2 -1 0 0
suit 5 6 1 0
`

func source(t *testing.T) api.Source {
	t.Helper()
	s, at, e := syntax.Parse(vega)
	if e != api.OK {
		t.Fatalf("Parse: %d at %d", e, at)
	}
	if s, e = names.Resolve(s); e != api.OK {
		t.Fatalf("Resolve: %d", e)
	}
	return s
}

func world(t *testing.T) api.World {
	t.Helper()
	r := func(l ...int) (s []api.Range) {
		for i := 0; i < len(l); i += 2 {
			s = append(s, api.Range{Lo: l[i], Hi: l[i+1]})
		}
		return s
	}
	half := api.Ratio{N: 1, D: 2}
	return api.World{
		Source: source(t), Every: 4,
		Deeds:      []api.Deed{{No: 1, Kind: 2, At: 3, Known: -4, Parts: []api.Part{{Farm: 0, Share: half}, {Farm: 1, Share: half}}}, {No: 2, Kind: 4, Of: 1, Known: 5}},
		Done:       []api.Done{{No: 3, Duty: 0, At: 12, Known: 14}},
		Judgements: []api.Judgement{{No: 1, Hour: 2, Kind: 3, Farm: 4, Other: 5, From: 6, To: 7, N: 8}},
		Forecasts:  []api.Past{{Body: 5, Bounds: r(1, 2, 3, 4)}, {Body: 6}},
		Stakes:     []api.Stake{{Body: 5, Deposit: 10, Rate: 3}},
		Weather:    api.Weather{Inflow: []int{5, 0, 7}, Evap: [][]int{{1, 2}, {}}, Seep: [][]int{{1000}}},
		Offers:     []api.Offer{{No: 1, Price: -5, Rain: api.Range{Hi: 10}, Lots: []api.Lot{{Week: 0, Litres: -3}, {Week: 1, Litres: 4}}}, {No: 2, Price: 5, Rain: api.Range{Hi: 10}}},
		Suspects:   []api.Suspect{{Kind: 1, Most: 9}},
		Waves:      []api.Wave{{Hour: 3, Heads: r(1, 2), Outlets: r(3, 4, 5, 6), Tails: r(7, 8)}, {Hour: 4}},
		Facts:      []api.Fact{{No: 1, Key: 2, Value: -3, From: 4, To: 5, Known: 6}},
		Slips:      []api.Slip{{Kind: 1, Turn: 5, Hour: 3, Litres: 7}},
		Sides:      []int{0, 1, 1},
		Cases:      []api.Case{{No: 1, Hour: 2, Facts: []int{0, 1}, Reason: []int{0}}, {No: 2, Hour: 3, Winner: 1, Facts: []int{}, Reason: []int{}}},
		Suits: []api.Suit{
			{No: 4, Hour: 5, Question: -1, Facts: []int{2}, Plea: api.Plea{Facts: []int{3, 4}, Clauses: []api.Clause{{Then: 1, Rank: 2, Strict: true, If: []int{-3, 4}}, {No: 2, Then: -1, If: []int{}}}}},
			{No: 5, Hour: 6, Question: 1, Facts: []int{}, Plea: api.Plea{Facts: []int{}}},
		},
	}
}

// P59.1 and P59.2: each kind of lines, there and back.
func TestPrintAndRead(t *testing.T) {
	if src, e := Print(world(t)); e != api.OK || src != vega+rest {
		t.Errorf("Print: %d\n%s", e, src)
	}
	w, line, e := Read(vega + rest)
	// Nil and empty slices are printed alike.
	if e != api.OK || line != 0 || fmt.Sprint(w) != fmt.Sprint(world(t)) {
		t.Errorf("Read: %d, line %d\n%v\n%v", e, line, w, world(t))
	}
	if src, e := Print(api.World{Source: source(t)}); e != api.OK || src != vega+"world 0\n" {
		t.Errorf("an empty world: %q, %d", src, e)
	}
	if w, _, e := Read(vega + "world 0\n"); e != api.OK || w.Every != 0 || w.Source.Name != "vega" {
		t.Errorf("an empty world: %v, %d", w, e)
	}
}

// P59.1: worlds that cannot be printed.
func TestPrintErrors(t *testing.T) {
	for i, x := range []struct {
		change func(w *api.World)
		want   api.Errno
	}{
		{func(w *api.World) { *w = api.World{} }, api.ErrName}, {func(w *api.World) { w.Source.Duties[0].Farm.N = 1; w.Every = 1 << 41 }, api.ErrName}, {func(w *api.World) { w.Source.Season.N = -1 }, api.ErrSyntax}, {func(w *api.World) { w.Forecasts[0].Seen = []int{1} }, api.ErrReport}, {func(w *api.World) { w.Facts[0].No = 1<<40 + 1 }, api.ErrReport}, {func(w *api.World) { w.Facts[0].No = -1<<40 - 1 }, api.ErrReport}, {func(w *api.World) { w.Facts[0].No = -1 << 40 }, 0}, {func(w *api.World) { w.Every = 1 << 40 }, 0}, {func(w *api.World) { w.Every = -1 << 63 }, api.ErrReport},
		{func(w *api.World) { w.Weather.Seep[0][0] = 1 << 62 }, api.ErrReport}, {func(w *api.World) { w.Suits[0].Plea.Clauses[0].If[0] = 1 << 62 }, api.ErrReport}, {func(w *api.World) { w.Deeds[0].Parts[1].Share.D = 1 << 62 }, api.ErrReport}, {func(w *api.World) { w.Waves[0].Tails[0].Hi = 1 << 62 }, api.ErrReport}, {func(w *api.World) { w.Weather.Evap = make([][]int, 20000) }, api.ErrLimit}, {func(w *api.World) { w.Weather.Evap = make([][]int, 20000); w.Every = 1 << 41 }, api.ErrReport},
	} {
		w := world(t)
		x.change(&w)
		if src, e := Print(w); e != x.want || e != api.OK && src != "" {
			t.Errorf("change %d: %d, want %d", i, e, x.want)
		}
	}
	w := world(t)
	src, _ := Print(w)
	// The longest report: a line "loss" has 5 bytes.
	free := api.MaxSource - len(src)
	w.Weather.Evap = append(make([][]int, free/5), w.Weather.Evap...)
	if src, e := Print(w); e != api.OK || len(src) > api.MaxSource {
		t.Errorf("%d bytes: %d", len(src), e)
	}
	w.Weather.Evap = append(w.Weather.Evap, nil)
	if _, e := Print(w); e != api.ErrLimit {
		t.Error("a line too many")
	}
}

// P59.2: the number of the first wrong line.
func TestReadErrors(t *testing.T) {
	source := strings.Count(vega, "\n")
	with := func(old, new string) string { return vega + strings.Replace(rest, old, new, 1) }
	for src, want := range map[string]int{
		"": 0, "world 0\n": 1, "world 0": 0, vega: 0, vega + "world\n": 0, vega + "world 0": 0, "\nworld 0\n": 1, strings.Replace(vega, "12 h", "12  h", 1) + rest: 1, strings.Replace(vega, "east on", "east of", 1) + rest: 1, strings.Replace(vega, "of east reach", "of west reach", 1) + rest: 1, vega + "x\n" + rest: 1, "// x\n" + vega + rest: 1,
		vega + "world \n": source + 1, vega + "world 1 2\n": source + 1, vega + "world 01\n": source + 1, vega + "world -0\n": source + 1, vega + "world +1\n": source + 1, vega + "world x\n": source + 1, vega + "world 1099511627777\n": source + 1, vega + "world 99999999999999999999\n": source + 1, vega + "world 1 \n": source + 1, vega + "world  1\n": source + 1, vega + "world 1\r\n": source + 1,
		vega + "world 1\nworld 1\n": source + 2, vega + "world 1\n\n": source + 2, vega + "world 1\nx 1\n": source + 2, vega + "world 1\ndone 1 2 3\n": source + 2, vega + "world 1\ndone 1 2 3 4 5\n": source + 2, vega + "world 1\ndone 1 2 3 4\ndeed 1 2 3 4 5 6 7 8\n": source + 3, vega + "world 1\ndone 1 2  3 4\n": source + 2, vega + "world 1\n done 1 2 3 4\n": source + 2, vega + "world 1\nDone 1 2 3 4\n": source + 2,
		with("deed 2 4", "deed 2"): source + 3, with("1 1 2\n", "1 1\n"): source + 2, with("forecast 6", "forecast 6 1"): source + 7, with("forecast 6", "forecast"): source + 7, with("inflow 5 0 7", "inflow"): source + 9, with("inflow 5 0 7", "inflow 1\ninflow 1"): source + 10, with("loss\n", "leak\nloss\n"): source + 12, with("10 0 -3 1 4", "10 0 -3 1"): source + 13,
		with("wave 3 1 2", "wave 3 9 2"): source + 16, with("wave 3 1 2", "wave 3 -1 2"): source + 16, with("wave 3 1 2", "wave 3 1 9"): source + 16, with("5 6 7 8\n", "5 6 7\n"): source + 16, with("wave 3 1 2", "wave 3 1099511627776 1099511627776"): source + 16, with("wave 4 0 0", "wave 4 0"): source + 17, with("sides 0 1 1", "sides"): source + 20, with("sides 0 1 1", "sides 1\nsides 1"): source + 21,
		with("case 2 3 1 0", "case 2 3 1 1"): source + 22, with("case 2 3 1 0", "case 2 3 1 -1"): source + 22, with("suit 5 6 1 0", "suit 5 6 1"): source + 26, with("suit 4 5 -1 1 2 3 4", "clause 1 1 1 1"): source + 23, with("clause 0 1 2 1", "clause 0 1 2 2"): source + 24, with("clause 0 1 2 1 -3 4", "clause 0 1 2"): source + 24, with("suit 5 6 1 0\n", "suit 5 6 1 0\ncase 2 3 1 0\n"): source + 27,
	} {
		if w, line, e := Read(src); e != api.ErrReport || line != want || !reflect.DeepEqual(w, api.World{}) {
			t.Errorf("Read(..%q): %d, line %d, want %d", strings.TrimPrefix(src, vega), e, line, want)
		}
	}
	if _, line, e := Read(strings.Repeat("x", 65537)); e != api.ErrLimit || line != 0 {
		t.Error("a long text")
	}
	if _, line, e := Read(strings.Repeat("\n", 65536)); e != api.ErrReport || line != 0 {
		t.Error("empty lines")
	}
}

// P59.3 to P59.5: there and back, one report, and further lines.
func TestLaws(t *testing.T) {
	r := rand.New(rand.NewSource(59))
	all := strings.SplitAfter(rest, "\n")
	for range 500 {
		src := vega + all[0]
		suits := 0
		for _, line := range all[1 : len(all)-1] {
			if strings.HasPrefix(line, "suit") {
				suits++
			}
			if r.Intn(2) == 0 && (!strings.HasPrefix(line, "clause") || strings.Contains(src, "suit ")) {
				src += line
			}
		}
		w, line, e := Read(src)
		if e != api.OK {
			t.Fatalf("%q: line %d", src, line)
		}
		printed, e := Print(w)
		if e != api.OK || printed != src {
			t.Fatalf("%q is printed as %q", src, printed)
		}
		w.Facts = append(w.Facts, api.Fact{No: 77})
		more, _ := Print(w)
		if len(strings.Split(more, "\n")) != len(strings.Split(src, "\n"))+1 || strings.Replace(more, "fact 77 0 0 0 0 0\n", "", 1) != src {
			t.Fatal("a further fact")
		}
		w, _, _ = Read(src)
		if n := len(w.Suits); n > 0 {
			w.Suits[n-1].Plea.Clauses = append(w.Suits[n-1].Plea.Clauses, api.Clause{No: 9})
			if more, _ := Print(w); more != src+"clause 9 0 0 0\n" {
				t.Fatal("a further clause")
			}
		}
	}
}
