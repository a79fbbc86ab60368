package sign

import (
	"math/rand"
	"testing"

	"acequia/api"
	"acequia/codec"
	"acequia/field"
	"acequia/group"
)

func integer(n int) api.Value { return api.Value{Kind: api.IntV, N: n} }

func encode(t *testing.T, l ...api.Value) []byte {
	t.Helper()
	b, e := codec.Encode(api.Value{Kind: api.ListV, L: l})
	if e != api.OK {
		t.Fatalf("error %d", e)
	}
	return b
}

func signed(t *testing.T, secret int, b []byte) api.Sig {
	t.Helper()
	s, e := Sign(secret, b)
	if e != api.OK {
		t.Fatalf("Sign: %d", e)
	}
	return s
}

// P11.1: the signature of the chapter, step by step.
func TestSign(t *testing.T) {
	for _, secret := range []int{1, 5, api.Q - 1} {
		b := []byte("water")
		text := api.Value{Kind: api.TextV, S: "water"}
		k := group.Hash("nonce", encode(t, integer(secret), text))
		point, _ := group.Pow(api.G, k)
		key, _ := group.Pow(api.G, secret)
		e := group.Hash("sign", encode(t, integer(point), integer(key), text))
		if s := signed(t, secret, b); s.E != e || s.S != field.Add(k, field.Mul(e, secret)) {
			t.Errorf("the secret %d: %v", secret, s)
		}
	}
	for _, secret := range []int{0, -1, api.Q, 1 << 62} {
		if s, e := Sign(secret, nil); e != api.ErrKey || s != (api.Sig{}) {
			t.Errorf("the secret %d", secret)
		}
	}
}

// P11.1 and P11.4: what is not right.
func TestVerify(t *testing.T) {
	b := []byte("water")
	s := signed(t, 5, b)
	if !Verify(1024, b, s) || s != signed(t, 5, b) {
		t.Error("a right signature")
	}
	for i, ok := range []bool{
		Verify(1024, []byte("wine"), s), Verify(1024, nil, s), Verify(4, b, s), Verify(2, b, s), Verify(0, b, s), Verify(-1024, b, s), Verify(1024+api.P, b, s),
		Verify(1024, b, api.Sig{E: s.E, S: s.S + api.Q}), Verify(1024, b, api.Sig{E: s.E + api.Q, S: s.S}), Verify(1024, b, api.Sig{E: s.E, S: s.S - api.Q}),
		Verify(1024, b, api.Sig{E: s.E - api.Q, S: s.S}), Verify(1024, b, api.Sig{E: s.E, S: api.Q}), Verify(1024, b, api.Sig{E: s.E, S: (s.S + 1) % api.Q}), Verify(1024, b, api.Sig{}),
	} {
		if ok {
			t.Errorf("case %d is right", i)
		}
	}
}

// P11.2: what is signed is right.
func TestRight(t *testing.T) {
	r := rand.New(rand.NewSource(11))
	for range 200 {
		secret := 1 + r.Intn(api.Q-1)
		key, _ := group.Pow(api.G, secret)
		b := make([]byte, r.Intn(50))
		r.Read(b)
		if !Verify(key, b, signed(t, secret, b)) {
			t.Fatalf("the secret %d", secret)
		}
	}
}

// P11.3: two texts signed with one point give the secret away.
func TestSecret(t *testing.T) {
	const secret, k = 777, 12345
	key, _ := group.Pow(api.G, secret)
	point, _ := group.Pow(api.G, k)
	var l []api.Sig
	for _, text := range []string{"a", "b"} {
		e := group.Hash("sign", encode(t, integer(point), integer(key), api.Value{Kind: api.TextV, S: text}))
		s := api.Sig{E: e, S: field.Add(k, field.Mul(e, secret))}
		if !Verify(key, []byte(text), s) {
			t.Fatal("a signature with a point of one's own")
		}
		l = append(l, s)
	}
	inverse, _ := field.Inverse(l[0].E - l[1].E)
	if field.Mul(l[0].S-l[1].S, inverse) != secret {
		t.Error("the secret")
	}
}
