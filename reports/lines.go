package reports

import "acequia/api"

func (r *reader) world() { r.w.Every = r.next() }

func (r *reader) deed() {
	n := r.some(8)
	d := api.Deed{No: n[0], Kind: n[1], Right: n[2], From: n[3], To: n[4], Of: n[5], At: n[6], Known: n[7]}
	for r.more() {
		p := r.some(3)
		d.Parts = append(d.Parts, api.Part{Farm: p[0], Share: api.Ratio{N: p[1], D: p[2]}})
	}
	r.w.Deeds = append(r.w.Deeds, d)
}

func (r *reader) done() {
	n := r.some(4)
	r.w.Done = append(r.w.Done, api.Done{No: n[0], Duty: n[1], At: n[2], Known: n[3]})
}

func (r *reader) judgement() {
	n := r.some(9)
	r.w.Judgements = append(r.w.Judgements, api.Judgement{No: n[0], Hour: n[1], Kind: n[2], Farm: n[3], Other: n[4], From: n[5], To: n[6], N: n[7], Of: n[8]})
}

func (r *reader) forecast() {
	f := api.Past{Body: r.next()}
	f.Bounds = r.spans(len(r.rest) / 2)
	r.w.Forecasts = append(r.w.Forecasts, f)
}

func (r *reader) stake() {
	n := r.some(4)
	r.w.Stakes = append(r.w.Stakes, api.Stake{Body: n[0], Period: n[1], Deposit: n[2], Rate: n[3]})
}

func (r *reader) inflow() {
	require(r.more())
	r.w.Weather.Inflow = r.all()
}

func (r *reader) loss() { r.w.Weather.Evap = append(r.w.Weather.Evap, r.all()) }

func (r *reader) leak() { r.w.Weather.Seep = append(r.w.Weather.Seep, r.all()) }

func (r *reader) offer() {
	o := api.Offer{No: r.next(), Farm: r.next(), Price: r.next(), Rain: r.span()}
	for r.more() {
		o.Lots = append(o.Lots, api.Lot{Week: r.next(), Litres: r.next()})
	}
	r.w.Offers = append(r.w.Offers, o)
}

func (r *reader) suspect() {
	n := r.some(3)
	r.w.Suspects = append(r.w.Suspects, api.Suspect{Kind: n[0], Index: n[1], Most: n[2]})
}

func (r *reader) wave() {
	n := r.some(3)
	w := api.Wave{Hour: n[0], Heads: r.spans(n[1]), Outlets: r.spans(n[2])}
	w.Tails = r.spans(len(r.rest) / 2)
	r.w.Waves = append(r.w.Waves, w)
}

func (r *reader) fact() {
	n := r.some(6)
	r.w.Facts = append(r.w.Facts, api.Fact{No: n[0], Key: n[1], Value: n[2], From: n[3], To: n[4], Known: n[5]})
}

func (r *reader) slip() {
	n := r.some(8)
	r.w.Slips = append(r.w.Slips, api.Slip{Tablet: n[0], Seq: n[1], Kind: n[2], Turn: n[3], Farm: n[4], Hour: n[5], Litres: n[6], Of: n[7]})
}

func (r *reader) sides() {
	require(r.more())
	r.w.Sides = r.all()
}

func (r *reader) court() {
	n := r.some(4)
	r.w.Cases = append(r.w.Cases, api.Case{No: n[0], Hour: n[1], Winner: n[2], Facts: r.some(n[3]), Reason: r.all()})
}

func (r *reader) suit() {
	n := r.some(4)
	r.w.Suits = append(r.w.Suits, api.Suit{No: n[0], Hour: n[1], Question: n[2], Facts: r.some(n[3]), Plea: api.Plea{Facts: r.all()}})
}

// clause reads a clause of the last suit. Nothing but suits and clauses comes after a suit.
func (r *reader) clause() {
	require(len(r.w.Suits) > 0)
	n := r.some(4)
	require(n[3] == 0 || n[3] == 1)
	p := &r.w.Suits[len(r.w.Suits)-1].Plea
	p.Clauses = append(p.Clauses, api.Clause{No: n[0], Then: n[1], Rank: n[2], Strict: n[3] == 1, If: r.all()})
}
