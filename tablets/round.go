package tablets

import (
	"slices"

	"acequia/api"
	"acequia/codec"
	"acequia/network"
)

// New returns a round of tablets that know nothing.
func New(n int) (r api.Round, e api.Errno) {
	if !within(n, 1, api.MaxTablets) {
		return r, api.ErrArg
	}
	return api.Round{Books: make([]api.Book, n), Net: network.New()}, api.OK
}

// message returns what is sent of a slip.
func message(s api.Slip) []byte {
	v := api.Value{Kind: api.ListV}
	for _, n := range [8]int{s.Tablet, s.Seq, s.Kind, s.Turn, s.Farm, s.Hour, s.Litres, s.Of} {
		v.L = append(v.L, api.Value{Kind: api.IntV, N: n})
	}
	b, _ := codec.Encode(v)
	return b
}

// slipOf returns the slip of a message.
func slipOf(b []byte) (s api.Slip, ok bool) {
	v, e := codec.Decode(b)
	if e != api.OK || v.Kind != api.ListV || len(v.L) != 8 || slices.ContainsFunc(v.L, func(x api.Value) bool { return x.Kind != api.IntV }) {
		return s, false
	}
	n := func(i int) int { return v.L[i].N }
	return api.Slip{Tablet: n(0), Seq: n(1), Kind: n(2), Turn: n(3), Farm: n(4), Hour: n(5), Litres: n(6), Of: n(7)}, true
}

func isRound(r api.Round) bool {
	n := len(r.Books)
	if !within(n, 1, api.MaxTablets) || network.Check(r.Net) != api.OK {
		return false
	}
	for _, b := range r.Books {
		if Check(b) != api.OK || len(b.Slips) > 0 && b.Slips[len(b.Slips)-1].Tablet >= n {
			return false
		}
	}
	for _, p := range r.Net.Queue {
		s, ok := slipOf(p.Data)
		if !ok || p.From >= n || p.To >= n || !isSlip(s) || !within(s.Tablet, 0, n-1) || !within(s.Seq, 0, api.MaxSlips-1) {
			return false
		}
	}
	return true
}

// event is a round in which something happens.
type event struct{ api.Round }

// setBook replaces a book.
func (r *event) setBook(i int, b api.Book) {
	r.Books = slices.Clone(r.Books)
	r.Books[i] = b
}

func (r *event) write(x api.Pass) api.Errno {
	if !within(x.Tablet, 0, len(r.Books)-1) || x.Slip.Tablet != x.Tablet {
		return api.ErrArg
	}
	b, e := Write(r.Books[x.Tablet], x.Slip)
	if e == api.OK {
		r.setBook(x.Tablet, b)
	}
	return e
}

func (r *event) tell(x api.Pass) (e api.Errno) {
	last := len(r.Books) - 1
	if !within(x.Tablet, 0, last) || !within(x.To, 0, last) || x.Tablet == x.To {
		return api.ErrArg
	}
	for _, s := range r.Books[x.Tablet].Slips {
		if r.Net, e = network.Send(r.Net, api.Packet{From: x.Tablet, To: x.To, Data: message(s)}); e != api.OK {
			return e
		}
	}
	return api.OK
}

func (r *event) deliver(x api.Pass) (e api.Errno) {
	var p api.Packet
	if p, r.Net, e = network.Deliver(r.Net, x.At); e != api.OK {
		return e
	}
	s, ok := slipOf(p.Data)
	if !ok {
		// The link is cut.
		return api.OK
	}
	b := r.Books[p.To]
	if y := with(b, s); s.Seq == count(b, s.Tablet) && Check(y) == api.OK {
		r.setBook(p.To, y)
	}
	return api.OK
}

func (r *event) lose(x api.Pass) (e api.Errno) {
	r.Net, e = network.Lose(r.Net, x.At)
	return e
}

func (r *event) repeat(x api.Pass) (e api.Errno) {
	r.Net, e = network.Repeat(r.Net, x.At)
	return e
}

// Do lets something happen in a round.
func Do(r api.Round, x api.Pass) (y api.Round, e api.Errno) {
	if !isRound(r) {
		return y, api.ErrTablet
	}
	does := map[int]func(*event, api.Pass) api.Errno{
		api.WriteP: (*event).write, api.TellP: (*event).tell, api.DeliverP: (*event).deliver, api.LoseP: (*event).lose, api.RepeatP: (*event).repeat,
	}
	do, ok := does[x.Kind]
	if !ok {
		return y, api.ErrArg
	}
	next := &event{r}
	if e = do(next, x); e != api.OK {
		return y, e
	}
	return next.Round, api.OK
}
