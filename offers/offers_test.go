package offers

import (
	"bytes"
	"math/rand"
	"reflect"
	"slices"
	"testing"

	"acequia/api"
	"acequia/digest"
)

func offer(no, farm int) api.Offer {
	return api.Offer{No: no, Farm: farm, Price: -3, Rain: api.Range{Lo: 1, Hi: 64}, Lots: []api.Lot{{Week: 0, Litres: -2}, {Week: 7, Litres: 1}}}
}

func salt(c byte) []byte { return bytes.Repeat([]byte{c}, 16) }

func seal(t *testing.T, o api.Offer, c byte) api.Seal {
	t.Helper()
	d, e := Commit(o, salt(c))
	if e != api.OK {
		t.Fatalf("Commit: %d", e)
	}
	return api.Seal{Farm: o.Farm, Digest: d}
}

// P44.1: valid offers.
func TestCheck(t *testing.T) {
	for i, x := range []struct {
		change func(o *api.Offer)
		want   api.Errno
	}{
		{func(o *api.Offer) {}, 0}, {func(o *api.Offer) { *o = api.Offer{} }, api.ErrOffer}, {func(o *api.Offer) { o.No, o.Lots = -1, make([]api.Lot, 9) }, api.ErrLimit}, {func(o *api.Offer) { o.Lots = nil }, api.ErrOffer}, {func(o *api.Offer) { o.No = -1 }, api.ErrOffer}, {func(o *api.Offer) { o.No = 1<<20 + 1 }, api.ErrOffer}, {func(o *api.Offer) { o.No = 1 << 20 }, 0},
		{func(o *api.Offer) { o.Farm = 600 }, api.ErrOffer}, {func(o *api.Offer) { o.Farm = -1 }, api.ErrOffer}, {func(o *api.Offer) { o.Farm = 599 }, 0}, {func(o *api.Offer) { o.Price = 1<<30 + 1 }, api.ErrOffer}, {func(o *api.Offer) { o.Price = -1 << 30 }, 0}, {func(o *api.Offer) { o.Price = -1<<30 - 1 }, api.ErrOffer},
		{func(o *api.Offer) { o.Rain.Lo = 65 }, api.ErrOffer}, {func(o *api.Offer) { o.Rain.Lo = -1 }, api.ErrOffer}, {func(o *api.Offer) { o.Rain.Hi = 10001 }, api.ErrOffer}, {func(o *api.Offer) { o.Rain = api.Range{Lo: 10000, Hi: 10000} }, 0}, {func(o *api.Offer) { o.Lots[1].Week = 8 }, api.ErrOffer}, {func(o *api.Offer) { o.Lots[0].Week = -1 }, api.ErrOffer}, {func(o *api.Offer) { o.Lots[1].Week = 0 }, api.ErrOffer},
		{func(o *api.Offer) { o.Lots[0].Litres = 0 }, api.ErrOffer}, {func(o *api.Offer) { o.Lots[0].Litres = 1<<30 + 1 }, api.ErrOffer}, {func(o *api.Offer) { o.Lots[0].Litres = -1 << 30 }, 0},
	} {
		o := offer(1, 2)
		x.change(&o)
		b, e1 := Message(o, salt(0))
		d, e2 := Commit(o, salt(0))
		if e := Check(o); e != x.want || e1 != e || e2 != e || e != api.OK && (b != nil || d != nil) {
			t.Errorf("change %d: %d, %d, %d, want %d", i, e, e1, e2, x.want)
		}
	}
}

// P44.1: the message, byte by byte.
func TestMessage(t *testing.T) {
	want := append([]byte{3, 7, 1, 2, 1, 4, 1, 5, 1, 2, 1, 128, 1, 3, 4, 1, 0, 1, 3, 1, 14, 1, 2, 2, 16}, salt(9)...)
	b, e := Message(offer(1, 2), salt(9))
	if e != api.OK || !bytes.Equal(b, want) {
		t.Errorf("Message = %v, %d", b, e)
	}
	d := digest.Tagged("offer", want)
	if c, e := Commit(offer(1, 2), salt(9)); e != api.OK || !bytes.Equal(c, d[:]) {
		t.Errorf("Commit = %v, %d", c, e)
	}
	for _, s := range [][]byte{nil, make([]byte, 15), make([]byte, 17)} {
		_, e1 := Message(offer(1, 2), s)
		_, e2 := Commit(offer(1, 2), s)
		if e1 != api.ErrOffer || e2 != api.ErrOffer {
			t.Errorf("a salt of %d bytes", len(s))
		}
	}
}

// P44.2: who counts, and who is silent.
func TestReveal(t *testing.T) {
	a, b, c := offer(1, 2), offer(2, 3), offer(1, 2)
	c.Price = 7
	foreign := seal(t, b, 2)
	foreign.Farm = 4
	for i, x := range []struct {
		seals  []api.Seal
		opens  []api.Open
		want   []api.Offer
		silent []int
		e      api.Errno
	}{
		{nil, nil, nil, nil, 0}, {[]api.Seal{seal(t, a, 1), seal(t, b, 2)}, nil, nil, []int{0, 1}, 0}, {[]api.Seal{seal(t, a, 1), seal(t, b, 2)}, []api.Open{{Offer: b, Salt: salt(2)}, {Offer: a, Salt: salt(1)}}, []api.Offer{a, b}, nil, 0}, {[]api.Seal{seal(t, a, 1)}, []api.Open{{Offer: a, Salt: salt(2)}}, nil, []int{0}, 0}, {[]api.Seal{foreign}, []api.Open{{Offer: b, Salt: salt(2)}}, nil, []int{0}, 0},
		{[]api.Seal{seal(t, a, 1), seal(t, a, 1)}, []api.Open{{Offer: a, Salt: salt(1)}}, []api.Offer{a}, []int{1}, 0}, {[]api.Seal{seal(t, a, 1), seal(t, a, 1)}, []api.Open{{Offer: a, Salt: salt(1)}, {Offer: a, Salt: salt(1)}}, []api.Offer{a}, nil, 0}, {[]api.Seal{seal(t, c, 1), seal(t, a, 1)}, []api.Open{{Offer: a, Salt: salt(1)}, {Offer: c, Salt: salt(1)}}, []api.Offer{c}, nil, 0}, {[]api.Seal{seal(t, a, 1)}, []api.Open{{}, {Offer: a, Salt: nil}, {Offer: a, Salt: salt(1)}}, []api.Offer{a}, nil, 0},
		{make([]api.Seal, 65), nil, nil, nil, api.ErrLimit}, {nil, make([]api.Open, 65), nil, nil, api.ErrLimit}, {make([]api.Seal, 1), make([]api.Open, 65), nil, nil, api.ErrLimit}, {[]api.Seal{{Digest: make([]byte, 31)}}, nil, nil, nil, api.ErrOffer}, {[]api.Seal{{Digest: make([]byte, 33)}}, nil, nil, nil, api.ErrOffer}, {[]api.Seal{{Farm: 600, Digest: make([]byte, 32)}}, nil, nil, nil, api.ErrOffer}, {[]api.Seal{{Farm: -1, Digest: make([]byte, 32)}}, nil, nil, nil, api.ErrOffer}, {[]api.Seal{{Farm: 599, Digest: make([]byte, 32)}}, make([]api.Open, 64), nil, []int{0}, 0},
	} {
		l, silent, e := Reveal(x.seals, x.opens)
		if !reflect.DeepEqual(l, x.want) || !slices.Equal(silent, x.silent) || e != x.e {
			t.Errorf("case %d: %v, %v, %d", i, l, silent, e)
		}
	}
}

// P44.3: different offers and salts have different messages.
func TestBinding(t *testing.T) {
	r := rand.New(rand.NewSource(44))
	seen := map[string]api.Open{}
	for range 3000 {
		x := api.Open{Offer: offer(r.Intn(3), r.Intn(3)), Salt: salt(byte(r.Intn(2)))}
		x.Offer.Price, x.Offer.Lots[0].Litres = r.Intn(3), 1+r.Intn(3)
		x.Offer.Lots = x.Offer.Lots[:1+r.Intn(2)]
		b, _ := Message(x.Offer, x.Salt)
		if y, there := seen[string(b)]; there && !reflect.DeepEqual(x, y) {
			t.Fatalf("%v and %v", x, y)
		}
		seen[string(b)] = x
	}
}

// P44.4 to P44.6: one's own, all, and the order of opens.
func TestLaws(t *testing.T) {
	r := rand.New(rand.NewSource(45))
	var seals []api.Seal
	var opens []api.Open
	var all []api.Offer
	for i := range 64 {
		x := api.Open{Offer: offer(i, i%7), Salt: salt(byte(i))}
		seals, opens, all = append(seals, seal(t, x.Offer, byte(i))), append(opens, x), append(all, x.Offer)
	}
	for range 20 {
		mixed := slices.Clone(opens)
		r.Shuffle(len(mixed), func(i, k int) { mixed[i], mixed[k] = mixed[k], mixed[i] })
		if l, silent, e := Reveal(seals, mixed); e != api.OK || !reflect.DeepEqual(l, all) || len(silent) != 0 {
			t.Fatal("all count")
		}
		n := r.Intn(64)
		l, silent, _ := Reveal(seals, mixed[:n])
		if len(l) != n || len(silent) != 64-n {
			t.Fatal("some count")
		}
		for _, o := range l {
			if !reflect.DeepEqual(o, all[o.No]) || seals[o.No].Farm != o.Farm {
				t.Fatal("an offer of another farm")
			}
		}
	}
}
