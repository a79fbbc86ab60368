// Package reports prints and reads worlds. See shared/doc/59-reports.md.
package reports

import (
	"slices"
	"strconv"
	"strings"

	"acequia/api"
	"acequia/names"
	"acequia/syntax"
)

// writer writes the lines of a report; bad says that a number is not within the limits.
type writer struct {
	strings.Builder
	bad bool
}

func isNumber(n int) bool { return -api.MaxNum <= n && n <= api.MaxNum }

// line writes a word and numbers.
func (w *writer) line(word string, numbers ...int) {
	w.WriteString(word)
	for _, n := range numbers {
		w.bad = w.bad || !isNumber(n)
		w.WriteString(" " + strconv.Itoa(n))
	}
	w.WriteString("\n")
}

// list writes a word and the numbers of some lists.
func (w *writer) list(word string, lists ...[]int) { w.line(word, slices.Concat(lists...)...) }

// flat returns the numbers of some elements, one after the other.
func flat[T any](l []T, numbers func(x T) []int) (all []int) {
	for _, x := range l {
		all = append(all, numbers(x)...)
	}
	return all
}

func ends(r api.Range) []int { return []int{r.Lo, r.Hi} }

// Print returns the report of a world.
func Print(w api.World) (src string, e api.Errno) {
	if e = names.Check(w.Source); e != api.OK {
		return "", e
	}
	if src, e = syntax.Print(w.Source); e != api.OK {
		return "", e
	}
	out := &writer{}
	out.WriteString(src)
	out.line("world", w.Every)
	out.register(w)
	out.forecasts(w)
	out.market(w)
	out.court(w)
	if out.bad || slices.ContainsFunc(w.Forecasts, func(f api.Past) bool { return len(f.Seen) > 0 }) {
		return "", api.ErrReport
	}
	if out.Len() > api.MaxSource {
		return "", api.ErrLimit
	}
	return out.String(), api.OK
}

// register writes what is decided.
func (w *writer) register(x api.World) {
	for _, d := range x.Deeds {
		parts := flat(d.Parts, func(p api.Part) []int { return []int{p.Farm, p.Share.N, p.Share.D} })
		w.list("deed", []int{d.No, d.Kind, d.Right, d.From, d.To, d.Of, d.At, d.Known}, parts)
	}
	for _, d := range x.Done {
		w.line("done", d.No, d.Duty, d.At, d.Known)
	}
	for _, j := range x.Judgements {
		w.line("judgement", j.No, j.Hour, j.Kind, j.Farm, j.Other, j.From, j.To, j.N, j.Of)
	}
}

// forecasts writes forecasts, stakes and the weather.
func (w *writer) forecasts(x api.World) {
	for _, f := range x.Forecasts {
		w.list("forecast", []int{f.Body}, flat(f.Bounds, ends))
	}
	for _, s := range x.Stakes {
		w.line("stake", s.Body, s.Period, s.Deposit, s.Rate)
	}
	if len(x.Weather.Inflow) > 0 {
		w.list("inflow", x.Weather.Inflow)
	}
	for _, l := range x.Weather.Evap {
		w.list("loss", l)
	}
	for _, l := range x.Weather.Seep {
		w.list("leak", l)
	}
}

// market writes offers, evidence, facts and slips.
func (w *writer) market(x api.World) {
	for _, o := range x.Offers {
		lots := flat(o.Lots, func(l api.Lot) []int { return []int{l.Week, l.Litres} })
		w.list("offer", []int{o.No, o.Farm, o.Price, o.Rain.Lo, o.Rain.Hi}, lots)
	}
	for _, s := range x.Suspects {
		w.line("suspect", s.Kind, s.Index, s.Most)
	}
	for _, v := range x.Waves {
		w.list("wave", []int{v.Hour, len(v.Heads), len(v.Outlets)}, flat(v.Heads, ends), flat(v.Outlets, ends), flat(v.Tails, ends))
	}
	for _, f := range x.Facts {
		w.line("fact", f.No, f.Key, f.Value, f.From, f.To, f.Known)
	}
	for _, s := range x.Slips {
		w.line("slip", s.Tablet, s.Seq, s.Kind, s.Turn, s.Farm, s.Hour, s.Litres, s.Of)
	}
}

// court writes cases and suits.
func (w *writer) court(x api.World) {
	if len(x.Sides) > 0 {
		w.list("sides", x.Sides)
	}
	for _, c := range x.Cases {
		w.list("case", []int{c.No, c.Hour, c.Winner, len(c.Facts)}, c.Facts, c.Reason)
	}
	for _, s := range x.Suits {
		w.list("suit", []int{s.No, s.Hour, s.Question, len(s.Facts)}, s.Facts, s.Plea.Facts)
		for _, c := range s.Plea.Clauses {
			strict := 0
			if c.Strict {
				strict = 1
			}
			w.list("clause", []int{c.No, c.Then, c.Rank, strict}, c.If)
		}
	}
}
