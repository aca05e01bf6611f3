package tx_test

import (
	"math"
	"math/rand"
	"slices"
	"testing"

	"drawbridge/api"
	"drawbridge/hash"
	"drawbridge/keytree"
	"drawbridge/tx"
)

// named tells where a name is another one, or is told where there is none.
func named(t *testing.T, what string, got api.Hash, ok bool, want api.Hash) {
	t.Helper()
	if got != want || ok != (want != zero) {
		t.Errorf("%s: %s, %v, want %s", what, hash.Text(got), ok, hash.Text(want))
	}
}

// text is the hash of that text.
func text(s string) api.Hash {
	x, _ := hash.Read(s)
	return x
}

// messageOf is the chapter's, of a Pay that may be.
func messageOf(x api.Tx, i int) api.Hash {
	x = twin(x)
	for k := range x.Ins {
		x.Ins[k].Sig = api.Sig{}
	}
	return digest('i', bytesOf(x), []byte{byte(i)})
}

// certMessageOf is the chapter's, of a Cert that may be with one Sig.
func certMessageOf(c api.Cert) api.Hash {
	c.Sigs = make([]api.Signed, 1)
	return digest('c', bytesOf(api.Tx{Kind: api.Certify, Cert: c}))
}

// P10.3: names that another program reckoned.
func TestReckoned(t *testing.T) {
	two := []string{"95b2993289786d7f", "580e61a10c708612", "c1c4cdf488b488d6", "0bcec5d538ac4d3a", "1457dec048d20b47"}
	most := []string{"564c94e8a21bdabb", "1969d37a1221e62f", "cb288523e8eccd95", "37fb3b19e1abc393", "1457dec048d20b47"}
	for i, kind := range kinds {
		id, ok := tx.ID(of(kind))
		named(t, "ID", id, ok, text(two[i]))
		id, ok = tx.ID(greatest(kind))
		named(t, "ID of the greatest", id, ok, text(most[i]))
	}
	id, ok := tx.ID(api.Tx{Kind: api.Coinbase, Height: 1})
	named(t, "ID of a small one", id, ok, text("190c1bab23188618"))
	for i, s := range []string{"48bedcf688bb6154", "b7c3ea4d27b9e717"} {
		m, ok := tx.Message(of(api.Pay), i)
		named(t, "Message", m, ok, text(s))
	}
	for i, s := range []string{"af2634649d98360f", "5963d139cec3b837", "af9aea018a1bff4a", "3a51fb1c60f7654b", "f69786bc78666bdc", "151a801b5a6991cd", "3386102c6801a735", "f23ea5a890574c42"} {
		m, ok := tx.Message(greatest(api.Pay), i)
		named(t, "Message of the greatest", m, ok, text(s))
	}
	for paid, s := range map[int]string{2: "ee697b05fe1d58e8", 16: "2fe4e5145d98fdf4", 0: "7b6ec59e8631b585"} {
		m, ok := tx.CertMessage(cert(paid, 2))
		named(t, "CertMessage", m, ok, text(s))
	}
	named(t, "Paid", tx.Paid(7, 258, h(900)), true, text("233142d5cdf25a63"))
	named(t, "Paid of nothing", tx.Paid(0, 0, zero), true, text("2ebe100506856d3a"))
	named(t, "Paid far out", tx.Paid(255, -1, h(1)), true, text("7f5acf829ab198ff"))
}

// P10.3: names of many, held against the library's SHA-256 of the chapter's bytes.
func TestNames(t *testing.T) {
	r := rand.New(rand.NewSource(30))
	for _, kind := range kinds {
		for range 100 {
			x := random(r, kind)
			id, ok := tx.ID(x)
			named(t, "ID", id, ok, digest('x', bytesOf(x)))
			for i := range x.Ins {
				m, ok := tx.Message(x, i)
				named(t, "Message", m, ok, messageOf(x, i))
			}
			if kind == api.Certify {
				m, ok := tx.CertMessage(x.Cert)
				named(t, "CertMessage", m, ok, certMessageOf(x.Cert))
			}
		}
	}
}

// P10.3: another transaction has another ID, wherever it differs; a Sig's and a Proof's
// bits count, too.
func TestOtherID(t *testing.T) {
	for _, kind := range kinds {
		plain := of(kind)
		id, _ := tx.ID(plain)
		b := bytesOf(plain)
		for i := range b {
			for bit := range 8 {
				c := slices.Clone(b)
				c[i] ^= 1 << bit
				x, err := tx.Decode(c)
				if err != api.OK {
					continue
				}
				other, ok := tx.ID(x)
				if !ok || other == id || tx.Same(x, plain) || tx.Same(plain, x) {
					t.Errorf("kind %d: bit %d of byte %d tells nothing", kind, bit, i)
				}
			}
		}
	}
}

// P10.3: Message is of a Pay that may be, and one of its Ins.
func TestMessageOf(t *testing.T) {
	for n := 1; n <= mostIns; n++ {
		x := api.Tx{Kind: api.Pay, Ins: ins(n), Outs: outs(1)}
		for _, i := range append([]int{0, 1, 2, 3, 4, 5, 6, 7, 8, 9, 255, 256, 257}, far...) {
			want := zero
			if i >= 0 && i < n {
				want = messageOf(x, i)
			}
			m, ok := tx.Message(x, i)
			named(t, "Message", m, ok, want)
		}
	}
	for _, kind := range kinds {
		for _, i := range []int{-1, 0, 1, 2} {
			if kind == api.Pay {
				continue
			}
			m, ok := tx.Message(of(kind), i)
			named(t, "Message of no Pay", m, ok, zero)
			x := of(kind)
			x.Ins = ins(2)
			m, ok = tx.Message(x, i)
			named(t, "Message of no Pay with Ins", m, ok, zero)
		}
	}
	for what, change := range map[string]func(x *api.Tx){
		"an Index past a byte":     func(x *api.Tx) { x.Ins[1].Sig.Index = 256 },
		"an Index below 0":         func(x *api.Tx) { x.Ins[0].Sig.Index = -1 },
		"an At past a byte":        func(x *api.Tx) { x.Ins[1].From.At = 256 },
		"one Point, twice":         func(x *api.Tx) { x.Ins[1].From = x.Ins[0].From },
		"neither Outs nor more":    func(x *api.Tx) { x.Outs, x.Forwards = nil, nil },
		"an Out of nobody":         func(x *api.Tx) { x.Outs[0].To = zero },
		"a Forward of nothing":     func(x *api.Tx) { x.Forwards[1].Amount = 0 },
		"a Height":                 func(x *api.Tx) { x.Height = 1 },
		"no Ins":                   func(x *api.Tx) { x.Ins = nil },
		"nine Ins":                 func(x *api.Tx) { x.Ins = ins(9) },
		"another kind":             func(x *api.Tx) { x.Kind = 6 },
		"no kind":                  func(x *api.Tx) { x.Kind = 0 },
		"a Claim that is not zero": func(x *api.Tx) { x.Claim.Side = 1 },
	} {
		x := of(api.Pay)
		change(&x)
		m, ok := tx.Message(x, 0)
		named(t, "Message with "+what, m, ok, zero)
	}
}

// P10.3: a Message hangs on all but the Sigs, and on the place.
func TestMessageHangs(t *testing.T) {
	plain := of(api.Pay)
	m, _ := tx.Message(plain, 0)
	bare := of(api.Pay)
	for i := range bare.Ins {
		bare.Ins[i].Sig = api.Sig{}
	}
	same, ok := tx.Message(bare, 0)
	named(t, "Message without Sigs", same, ok, m)
	b := bytesOf(plain)
	for i := range b {
		c := slices.Clone(b)
		c[i] ^= 1
		x, err := tx.Decode(c)
		if err != api.OK {
			continue
		}
		for k := range x.Ins {
			x.Ins[k].Sig = api.Sig{}
		}
		other, ok := tx.Message(x, 0)
		if !ok || (other == m) != tx.Same(x, bare) {
			t.Errorf("byte %d: another Message %v", i, other != m)
		}
	}
	if next, ok := tx.Message(plain, 1); !ok || next == m {
		t.Error("the place tells nothing")
	}
}

// P10.3: each In is signed, one behind the other: a Sig that is set bends no Message.
func TestSigned(t *testing.T) {
	x := api.Tx{Kind: api.Pay, Ins: ins(3), Outs: outs(1)}
	var trees []*keytree.Tree
	for i := range x.Ins {
		trees = append(trees, keytree.New(h(i)))
		x.Ins[i].Key, x.Ins[i].Sig = trees[i].Root(), api.Sig{}
	}
	for i, tree := range trees {
		m, _ := tx.Message(x, i)
		x.Ins[i].Sig, _ = tree.Sign(i, m)
	}
	b, _ := tx.Encode(x)
	x, _ = tx.Decode(b)
	for i, in := range x.Ins {
		m, ok := tx.Message(x, i)
		if !ok || !keytree.Check(in.Key, m, in.Sig) {
			t.Errorf("the signature of %d is not right", i)
		}
	}
}

// P10.3: CertMessage hangs on all of a Cert but its Sigs, whatever these are.
func TestCertMessage(t *testing.T) {
	c := cert(2, 2)
	want := certMessageOf(c)
	for what, sigs := range map[string][]api.Signed{
		"no Sigs":               nil,
		"an empty list":         {},
		"one, all zero":         make([]api.Signed, 1),
		"six":                   cert(0, 6).Sigs,
		"a Key that is none":    {{Key: 5}},
		"a Key below 0":         {{Key: -1}},
		"an Index that may not": {{Sig: api.Sig{Index: 256}}},
		"far out":               {{Key: math.MaxInt, Sig: api.Sig{Index: math.MinInt}}},
	} {
		c.Sigs = sigs
		m, ok := tx.CertMessage(c)
		named(t, "CertMessage with "+what, m, ok, want)
	}
	for what, change := range map[string]func(c *api.Cert){
		"Side":           func(c *api.Cert) { c.Side = 6 },
		"Epoch":          func(c *api.Cert) { c.Epoch = 400 },
		"no Epoch":       func(c *api.Cert) { c.Epoch = 0 },
		"Quality":        func(c *api.Cert) { c.Quality = mostQuality },
		"End":            func(c *api.Cert) { c.End[7] ^= 1 },
		"Root":           func(c *api.Cert) { c.Root[0] ^= 1 },
		"an Out's To":    func(c *api.Cert) { c.Outs[1].To[5] ^= 1 },
		"an Amount":      func(c *api.Cert) { c.Outs[0].Amount = mostMoney },
		"an Out fewer":   func(c *api.Cert) { c.Outs = c.Outs[:1] },
		"Outs turned":    func(c *api.Cert) { slices.Reverse(c.Outs) },
		"no Outs":        func(c *api.Cert) { c.Outs = nil },
		"all Outs there": func(c *api.Cert) { c.Outs = outs(16) },
	} {
		c := cert(2, 2)
		change(&c)
		m, ok := tx.CertMessage(c)
		named(t, "CertMessage with another "+what, m, ok, certMessageOf(c))
		if m == want {
			t.Errorf("%s tells nothing", what)
		}
	}
}

// P10.3: of a Cert that may not be there is no message.
func TestCertMessageNone(t *testing.T) {
	for what, change := range map[string]func(c *api.Cert){
		"Side 8":             func(c *api.Cert) { c.Side = 8 },
		"Side -1":            func(c *api.Cert) { c.Side = -1 },
		"Epoch 401":          func(c *api.Cert) { c.Epoch = 401 },
		"Epoch -1":           func(c *api.Cert) { c.Epoch = -1 },
		"Quality 2^31":       func(c *api.Cert) { c.Quality = mostQuality + 1 },
		"Quality -1":         func(c *api.Cert) { c.Quality = -1 },
		"17 Outs":            func(c *api.Cert) { c.Outs = outs(17) },
		"an Out of nobody":   func(c *api.Cert) { c.Outs[1].To = zero },
		"an Out of nothing":  func(c *api.Cert) { c.Outs[1].Amount = 0 },
		"an Out of too much": func(c *api.Cert) { c.Outs[0].Amount = mostMoney + 1 },
	} {
		c := cert(2, 2)
		change(&c)
		m, ok := tx.CertMessage(c)
		named(t, "CertMessage with "+what, m, ok, zero)
	}
	m, ok := tx.CertMessage(api.Cert{})
	named(t, "CertMessage of the zero one", m, ok, certMessageOf(api.Cert{}))
}

// P10.3: Same is the same bytes; what may not be is the same as nothing, itself too.
func TestSame(t *testing.T) {
	for _, kind := range kinds {
		for _, other := range kinds {
			if tx.Same(of(kind), of(other)) != (kind == other) {
				t.Errorf("kinds %d and %d: Same %v", kind, other, kind != other)
			}
			x := of(other)
			x.Kind = 0
			if tx.Same(of(kind), x) || tx.Same(x, of(kind)) || tx.Same(x, x) {
				t.Errorf("kind %d: the same as one that may not be", kind)
			}
		}
		if tx.Same(of(kind), greatest(kind)) != (kind == api.Withdraw) {
			t.Errorf("kind %d: Same of the greatest", kind)
		}
	}
	if tx.Same(api.Tx{}, api.Tx{}) {
		t.Error("the zero one is the same as itself")
	}
}

// P10.3: Paid has the lowest byte of a Side, the lowest four of an Epoch, the lowest first.
func TestPaid(t *testing.T) {
	for _, s := range append([]int{0, 1, 7, 8, 255, 256, 257}, far...) {
		for _, e := range append([]int{0, 1, 255, 256, 400, 0x01020304, 1<<32 - 1, 1 << 32}, far...) {
			for _, end := range []api.Hash{zero, h(1), {7: 1}} {
				b := sheet{}
				b.num(s, 1)
				b.num(e, 4)
				want := digest('w', b[:1], b[1:], end[:])
				named(t, "Paid", tx.Paid(s, e, end), true, want)
			}
		}
	}
}
