package tablets

import (
	"math/rand"
	"reflect"
	"slices"
	"testing"

	"acequia/api"
	"acequia/network"
)

func given(tablet, seq, turn, farm, hour int) api.Slip {
	return api.Slip{Tablet: tablet, Seq: seq, Kind: api.GivenT, Turn: turn, Farm: farm, Hour: hour, Litres: 7}
}

func lent(tablet, seq, turn, farm, hour int) api.Slip {
	return api.Slip{Tablet: tablet, Seq: seq, Kind: api.LentT, Turn: turn, Farm: farm, Hour: hour}
}

func void(tablet, seq, of int) api.Slip {
	return api.Slip{Tablet: tablet, Seq: seq, Kind: api.VoidT, Of: of + 1}
}

func book(l ...api.Slip) api.Book { return api.Book{Slips: l} }

// P54.1: valid books.
func TestCheck(t *testing.T) {
	for i, x := range []struct {
		b    api.Book
		want api.Errno
	}{
		{book(), 0}, {book(given(0, 0, 1<<20, 599, 4096), lent(0, 1, 0, 0, 0), void(0, 2, 1), given(7, 0, 5, 5, 5)), 0}, {book(void(0, 0, 0)), api.ErrTablet}, {book(given(0, 0, 0, 0, 0), void(0, 1, 1)), api.ErrTablet}, {book(given(0, 0, 0, 0, 0), void(0, 1, -1)), api.ErrTablet}, {book(given(0, 0, 0, 0, 0), void(0, 1, 0), void(0, 2, 1)), api.ErrTablet}, {book(given(0, 0, 0, 0, 0), void(0, 1, 0), void(0, 2, 0)), 0}, {book(given(1, 0, 0, 0, 0), given(0, 0, 0, 0, 0)), api.ErrTablet},
		{book(given(0, 1, 0, 0, 0)), api.ErrTablet}, {book(given(0, 0, 0, 0, 0), given(0, 0, 0, 0, 0)), api.ErrTablet}, {book(given(0, 0, 0, 0, 0), given(0, 2, 0, 0, 0)), api.ErrTablet}, {book(given(-1, 0, 0, 0, 0)), api.ErrTablet}, {book(given(8, 0, 0, 0, 0)), api.ErrTablet}, {book(given(0, 0, -1, 0, 0)), api.ErrTablet}, {book(given(0, 0, 1<<20+1, 0, 0)), api.ErrTablet}, {book(given(0, 0, 0, 600, 0)), api.ErrTablet}, {book(given(0, 0, 0, -1, 0)), api.ErrTablet}, {book(given(0, 0, 0, 0, 4097)), api.ErrTablet}, {book(given(0, 0, 0, 0, -1)), api.ErrTablet},
		{book(api.Slip{Kind: api.GivenT, Of: 1}), api.ErrTablet}, {book(api.Slip{Kind: api.GivenT, Litres: 1 << 30}), 0}, {book(api.Slip{Kind: api.GivenT, Litres: 1<<30 + 1}), api.ErrTablet}, {book(api.Slip{Kind: api.LentT, Litres: 1}), api.ErrTablet}, {book(api.Slip{}), api.ErrTablet}, {book(api.Slip{Kind: 4}), api.ErrTablet}, {book(given(0, 0, 0, 0, 0), api.Slip{Seq: 1, Kind: api.VoidT, Of: 1, Turn: 1}), api.ErrTablet}, {book(make([]api.Slip, 513)...), api.ErrLimit}, {book(make([]api.Slip, 512)...), api.ErrTablet},
	} {
		_, e1 := Merge(x.b, book(api.Slip{}))
		_, e2 := Merge(book(), x.b)
		_, e3 := Turns(x.b)
		want := x.want
		if want == api.OK {
			want = api.ErrTablet
		}
		if e := Check(x.b); e != x.want || e1 != want || e2 != e || e3 != e {
			t.Errorf("book %d: %d, %d, %d, %d", i, e, e1, e2, e3)
		}
	}
}

// P54.1: what is written, and what is merged.
func TestWriteAndMerge(t *testing.T) {
	b := book(given(0, 0, 1, 1, 1), given(2, 0, 1, 1, 1))
	x, e := Write(b, given(0, 77, 5, 5, 5))
	if want := book(given(0, 0, 1, 1, 1), given(0, 1, 5, 5, 5), given(2, 0, 1, 1, 1)); e != api.OK || !reflect.DeepEqual(x, want) || len(b.Slips) != 2 || b.Slips[1].Tablet != 2 {
		t.Errorf("Write = %v, %d", x, e)
	}
	if x, e := Write(b, void(2, 0, 0)); e != api.OK || x.Slips[2] != void(2, 1, 0) {
		t.Errorf("a void slip: %v, %d", x, e)
	}
	for i, s := range []api.Slip{void(0, 0, 1), void(1, 0, 0), given(8, 0, 0, 0, 0), given(-1, 0, 0, 0, 0), {Kind: 9}} {
		if x, e := Write(b, s); e != api.ErrTablet || x.Slips != nil {
			t.Errorf("slip %d: %d", i, e)
		}
	}
	full := book()
	for i := range 512 {
		full.Slips = append(full.Slips, given(0, i, 0, 0, 0))
	}
	if _, e := Write(full, api.Slip{}); e != api.ErrLimit {
		t.Error("a slip too many")
	}
	if _, e := Write(book(make([]api.Slip, 513)...), api.Slip{}); e != api.ErrLimit {
		t.Error("513 slips")
	}
	if _, e := Merge(full, book(given(1, 0, 0, 0, 0))); e != api.ErrLimit {
		t.Error("513 slips together")
	}
	y := book(given(0, 0, 1, 1, 1), given(1, 0, 3, 3, 3), given(2, 0, 1, 1, 1), lent(2, 1, 9, 9, 9))
	if z, e := Merge(x, y); e != api.OK || !reflect.DeepEqual(z, book(x.Slips[0], x.Slips[1], y.Slips[1], y.Slips[2], y.Slips[3])) {
		t.Errorf("Merge = %v, %d", z, e)
	}
	if z, e := Merge(b, book(given(2, 0, 1, 1, 2))); e != api.ErrTablet || z.Slips != nil {
		t.Error("two slips at one place")
	}
	if z, e := Merge(b, b); e != api.OK || !reflect.DeepEqual(z, b) {
		t.Error("a book with itself")
	}
}

// P54.2: turns.
func TestTurns(t *testing.T) {
	b := book(given(0, 0, 5, 10, 8), lent(0, 1, 5, 11, 1), given(0, 2, 6, 12, 3), void(0, 3, 2), lent(0, 4, 7, 13, 4), given(1, 0, 5, 14, 6), lent(1, 1, 7, 15, 4), given(1, 2, 5, 16, 6), lent(2, 0, 9, 17, 0), lent(2, 1, 9, 18, 0), void(2, 2, 1))
	l, e := Turns(b)
	if want := []api.Turn{{Turn: 5, Farm: 14, Given: 6, Twice: []int{0, 7}}, {Turn: 7, Farm: 15}, {Turn: 9, Farm: 17}}; e != api.OK || !reflect.DeepEqual(l, want) {
		t.Errorf("Turns = %v, %d", l, e)
	}
	if l, e := Turns(book()); e != api.OK || len(l) != 0 {
		t.Error("no slips")
	}
}

func round(t *testing.T, n int) api.Round {
	t.Helper()
	r, e := New(n)
	if e != api.OK {
		t.Fatalf("New: %d", e)
	}
	return r
}

func do(t *testing.T, r api.Round, l ...api.Pass) api.Round {
	t.Helper()
	for _, x := range l {
		y, e := Do(r, x)
		if e != api.OK {
			t.Fatalf("%v: %d", x, e)
		}
		r = y
	}
	return r
}

func writes(s api.Slip) api.Pass { return api.Pass{Kind: api.WriteP, Tablet: s.Tablet, Slip: s} }

func tells(from, to int) api.Pass { return api.Pass{Kind: api.TellP, Tablet: from, To: to} }

func at(kind, i int) api.Pass { return api.Pass{Kind: kind, At: i} }

// P54.3: events, one after the other.
func TestDo(t *testing.T) {
	r := do(t, round(t, 3), writes(given(0, 0, 1, 1, 1)), writes(given(0, 0, 2, 2, 2)), writes(given(1, 0, 3, 3, 3)), tells(0, 1))
	want := []byte{3, 8, 1, 0, 1, 2, 1, 2, 1, 4, 1, 4, 1, 4, 1, 14, 1, 0}
	if len(r.Net.Queue) != 2 || r.Net.Queue[1].To != 1 || !slices.Equal(r.Net.Queue[1].Data, want) {
		t.Errorf("the queue: %v", r.Net.Queue)
	}
	if x := do(t, r, at(api.DeliverP, 1)); len(x.Books[1].Slips) != 1 || len(x.Net.Queue) != 1 {
		t.Error("a slip ahead of an earlier one")
	}
	x := do(t, r, at(api.RepeatP, 0), at(api.DeliverP, 0), at(api.DeliverP, 0), at(api.DeliverP, 0))
	if !slices.Equal(x.Books[1].Slips, []api.Slip{given(0, 0, 1, 1, 1), given(0, 1, 2, 2, 2), given(1, 0, 3, 3, 3)}) || len(r.Books[1].Slips) != 1 {
		t.Errorf("the book: %v", x.Books[1])
	}
	if x := do(t, r, at(api.LoseP, 0), at(api.DeliverP, 0)); len(x.Books[1].Slips) != 1 || len(x.Net.Queue) != 0 {
		t.Error("a lost slip")
	}
	cut := r
	cut.Net, _ = network.Cut(cut.Net, 0, 1, true)
	if x := do(t, cut, at(api.DeliverP, 0)); len(x.Books[1].Slips) != 1 || len(x.Net.Queue) != 1 {
		t.Error("a cut link")
	}
	for i, x := range []struct {
		x    api.Pass
		want api.Errno
	}{
		{api.Pass{}, api.ErrArg}, {api.Pass{Kind: 6}, api.ErrArg}, {api.Pass{Kind: api.WriteP, Tablet: 3, Slip: given(3, 0, 0, 0, 0)}, api.ErrArg}, {api.Pass{Kind: api.WriteP, Tablet: -1, Slip: given(-1, 0, 0, 0, 0)}, api.ErrArg}, {api.Pass{Kind: api.WriteP, Tablet: 1, Slip: given(0, 0, 0, 0, 0)}, api.ErrArg}, {writes(void(2, 0, 0)), api.ErrTablet}, {tells(0, 0), api.ErrArg}, {tells(3, 0), api.ErrArg}, {tells(0, -1), api.ErrArg}, {at(api.DeliverP, 2), api.ErrArg}, {at(api.LoseP, -1), api.ErrArg}, {at(api.RepeatP, 2), api.ErrArg},
	} {
		if y, e := Do(r, x.x); e != x.want || y.Books != nil {
			t.Errorf("event %d: %d, want %d", i, e, x.want)
		}
	}
}

// P54.3: rounds that are not valid, and limits.
func TestRounds(t *testing.T) {
	for _, n := range []int{0, 9, -1} {
		if r, e := New(n); e != api.ErrArg || r.Books != nil {
			t.Errorf("New(%d)", n)
		}
	}
	r := do(t, round(t, 3), writes(given(0, 0, 1, 1, 1)), tells(0, 1))
	for i, change := range []func(r *api.Round){
		func(r *api.Round) { *r = api.Round{} }, func(r *api.Round) { r.Books = make([]api.Book, 9) }, func(r *api.Round) { r.Books = r.Books[:1] }, func(r *api.Round) { r.Books[2] = book(given(3, 0, 0, 0, 0)) }, func(r *api.Round) { r.Books[2] = book(api.Slip{}) }, func(r *api.Round) { r.Books[2] = book(make([]api.Slip, 513)...) }, func(r *api.Round) { r.Net.Apart = [][2]int{{1, 1}} }, func(r *api.Round) { r.Net.Queue[0].To = 3 }, func(r *api.Round) { r.Net.Queue[0].From = 3 },
		func(r *api.Round) { r.Net.Queue[0].Data = nil }, func(r *api.Round) { r.Net.Queue[0].Data = message(given(3, 0, 0, 0, 0)) }, func(r *api.Round) { r.Net.Queue[0].Data = message(given(0, 512, 0, 0, 0)) }, func(r *api.Round) { r.Net.Queue[0].Data = message(given(0, -1, 0, 0, 0)) }, func(r *api.Round) { r.Net.Queue[0].Data = message(void(0, 0, 0)) }, func(r *api.Round) { r.Net.Queue[0].Data = []byte{3, 0} },
	} {
		x := r
		x.Books, x.Net.Queue = slices.Clone(r.Books), slices.Clone(r.Net.Queue)
		change(&x)
		if y, e := Do(x, api.Pass{}); e != api.ErrTablet || y.Books != nil {
			t.Errorf("change %d: %d", i, e)
		}
	}
	full := do(t, round(t, 2), writes(given(0, 0, 0, 0, 0)), tells(0, 1))
	full.Net.Queue = slices.Repeat(full.Net.Queue, 4096)
	if _, e := Do(full, tells(0, 1)); e != api.ErrLimit {
		t.Error("4097 packets by TellP")
	}
	if _, e := Do(full, at(api.RepeatP, 0)); e != api.ErrLimit {
		t.Error("4097 packets by RepeatP")
	}
	if x := do(t, round(t, 2), writes(given(0, 0, 0, 0, 0)), tells(0, 1)); len(x.Net.Queue) != 1 {
		t.Error("one packet")
	}
}

// P54.4 to P54.7: merging, and whatever happens in rounds.
func TestLaws(t *testing.T) {
	r := rand.New(rand.NewSource(54))
	for range 100 {
		x := round(t, 3)
		for range 60 {
			before := x
			n := r.Intn(max(1, len(x.Net.Queue)))
			tablet := r.Intn(3)
			s := []api.Slip{given(tablet, 0, r.Intn(4), r.Intn(5), r.Intn(9)), lent(tablet, 0, r.Intn(4), r.Intn(5), r.Intn(9)), void(tablet, 0, r.Intn(4))}[r.Intn(3)]
			p := []api.Pass{writes(s), tells(tablet, r.Intn(3)), at(api.DeliverP, n), at(api.DeliverP, n), at(api.LoseP, n), at(api.RepeatP, n)}[r.Intn(6)]
			if y, e := Do(x, p); e == api.OK {
				x = y
			}
			for i, b := range x.Books {
				for tablet := range 3 {
					own, mine := slipsOf(x.Books[tablet], tablet), slipsOf(b, tablet)
					old := slipsOf(before.Books[i], tablet)
					if !slices.Equal(own[:len(mine)], mine) || !slices.Equal(mine[:len(old)], old) {
						t.Fatal("a slip is lost or invented")
					}
				}
			}
		}
		a, b, c := x.Books[0], x.Books[1], x.Books[2]
		ab, e1 := Merge(a, b)
		ba, e2 := Merge(b, a)
		bc, e3 := Merge(b, c)
		left, e4 := Merge(ab, c)
		right, e5 := Merge(a, bc)
		if e1 != api.OK || e2 != api.OK || e3 != api.OK || e4 != api.OK || e5 != api.OK || !reflect.DeepEqual(ab, ba) || !reflect.DeepEqual(left, right) {
			t.Fatal("merging")
		}
		checkGiven(t, left)
		x.Net.Queue = nil
		told := do(t, x, tells(0, 1))
		for len(told.Net.Queue) > 0 {
			told = do(t, told, at(api.DeliverP, 0))
		}
		if !reflect.DeepEqual(told.Books[1], ab) {
			t.Fatal("a tablet tells all its slips")
		}
	}
}

// checkGiven counts the slips by which turns were given.
func checkGiven(t *testing.T, b api.Book) {
	t.Helper()
	turns, _ := Turns(b)
	seen := map[int]int{}
	for _, x := range turns {
		if x.Given > 0 {
			seen[x.Given-1]++
		}
		for _, i := range x.Twice {
			seen[i]++
		}
	}
	for i, s := range b.Slips {
		isVoid := slices.ContainsFunc(b.Slips, func(v api.Slip) bool { return v.Kind == api.VoidT && v.Tablet == s.Tablet && v.Of == s.Seq+1 })
		if want := map[bool]int{true: 1}[s.Kind == api.GivenT && !isVoid]; seen[i] != want {
			t.Fatalf("the slip %d belongs to %d turns", i, seen[i])
		}
	}
}
