package tx_test

import (
	"bytes"
	"math/rand"
	"reflect"
	"slices"
	"testing"

	"drawbridge/api"
	"drawbridge/tx"
)

// cursor reads a sheet; behind its end all is zero.
type cursor struct {
	b     []byte
	short bool
}

func (c *cursor) take(n int) []byte {
	if n > len(c.b) {
		c.b, c.short = nil, true
		return make([]byte, n)
	}
	b := c.b[:n]
	c.b = c.b[n:]
	return b
}

func (c *cursor) num(width int) int {
	n := 0
	for i, b := range c.take(width) {
		n += int(b) << (8 * i)
	}
	return n
}

func (c *cursor) hash() api.Hash { return api.Hash(c.take(8)) }

func (c *cursor) hashes(l []api.Hash) {
	for i := range l {
		l[i] = c.hash()
	}
}

func (c *cursor) sig() api.Sig {
	s := api.Sig{Index: c.num(1)}
	c.hashes(s.Open[:])
	c.hashes(s.Shut[:])
	c.hashes(s.Path[:])
	return s
}

func (c *cursor) outs() []api.Out {
	var l []api.Out
	for range c.num(1) {
		to := c.hash()
		l = append(l, api.Out{To: to, Amount: c.num(7)})
	}
	return l
}

func (c *cursor) pay(t *api.Tx) {
	for range c.num(1) {
		in := api.In{From: api.Point{Tx: c.hash()}}
		in.From.At = c.num(1)
		in.Key = c.hash()
		in.Sig = c.sig()
		t.Ins = append(t.Ins, in)
	}
	t.Outs = c.outs()
	for range c.num(1) {
		f := api.Forward{Side: c.num(1)}
		f.Account = c.num(2)
		f.Owner = c.hash()
		f.Amount = c.num(7)
		t.Forwards = append(t.Forwards, f)
	}
}

func (c *cursor) cert(l *api.Cert) {
	l.Side, l.Epoch, l.Quality = c.num(1), c.num(4), c.num(4)
	l.End, l.Root = c.hash(), c.hash()
	l.Outs = c.outs()
	for range c.num(1) {
		s := api.Signed{Key: c.num(1)}
		s.Sig = c.sig()
		l.Sigs = append(l.Sigs, s)
	}
}

// read is what the chapter says of bytes, read another way than the package reads them.
func read(b []byte) (api.Tx, api.Errno) {
	if len(b) > mostBytes {
		return api.Tx{}, api.ErrLong
	}
	c := &cursor{b: b}
	t := api.Tx{Kind: c.num(1)}
	switch t.Kind {
	case api.Coinbase:
		t.Height = c.num(4)
		t.Outs = c.outs()
	case api.Pay:
		c.pay(&t)
	case api.Create:
		t.Params.Length, t.Params.Window, t.Params.Need = c.num(1), c.num(1), c.num(1)
		t.Params.Keys = make([]api.Hash, c.num(1))
		c.hashes(t.Params.Keys)
	case api.Certify:
		c.cert(&t.Cert)
	case api.Withdraw:
		t.Claim.Side, t.Claim.Account = c.num(1), c.num(2)
		t.Claim.State.Owner = c.hash()
		t.Claim.State.Amount, t.Claim.State.Nonce = c.num(7), c.num(1)
		c.hashes(t.Claim.Proof[:])
	}
	switch {
	case c.short:
		return api.Tx{}, api.ErrShort
	case len(c.b) > 0 || !tx.May(t):
		return api.Tx{}, api.ErrForm
	}
	return t, api.OK
}

// alike tells whether two are one, field by field.
func alike(a, b api.Tx) bool { return reflect.DeepEqual(twin(a), twin(b)) }

// decoded tells where Decode answers otherwise, and where what was read is not written
// again to the same bytes.
func decoded(t *testing.T, what string, b []byte, want api.Tx, err api.Errno) {
	t.Helper()
	got, e := tx.Decode(b)
	if e != err || !alike(got, want) {
		t.Errorf("%s: Decode answers %v, %v, want %v", what, got.Kind, e, err)
		return
	}
	if e != api.OK {
		return
	}
	if again, e := tx.Encode(got); e != api.OK || !bytes.Equal(again, b) {
		t.Errorf("%s: what was read is written to %d other bytes, %v", what, len(again), e)
	}
}

// refused tells where Decode answers another error.
func refused(t *testing.T, what string, b []byte, err api.Errno) {
	t.Helper()
	decoded(t, what, b, api.Tx{}, err)
}

// The chapter's example, and small ones written out.
func TestExamples(t *testing.T) {
	out := []byte{1, 0, 3, 4, 5, 6, 7, 8}
	key := []byte{32, 3, 3, 4, 5, 6, 7, 8}
	for _, c := range []struct {
		what  string
		x     api.Tx
		bytes []byte
	}{
		{"Coinbase, Height 1, no Outs", api.Tx{Kind: api.Coinbase, Height: 1}, []byte{1, 1, 0, 0, 0, 0}},
		{"Coinbase, an Out", api.Tx{Kind: api.Coinbase, Height: 0x102, Outs: []api.Out{{To: h(1), Amount: 0x2030405060708}}},
			slices.Concat([]byte{1, 2, 1, 0, 0, 1}, out, []byte{8, 7, 6, 5, 4, 3, 2})},
		{"Create, a key", api.Tx{Kind: api.Create, Params: params(1)}, slices.Concat([]byte{3, 64, 3, 1, 1}, key)},
		{"Withdraw", api.Tx{Kind: api.Withdraw, Claim: api.Claim{Side: 2, Account: 0x102, State: api.Account{Owner: h(1), Amount: 1, Nonce: 255}}},
			slices.Concat([]byte{5, 2, 2, 1}, out, []byte{1, 0, 0, 0, 0, 0, 0, 255}, make([]byte, 128))},
		{"Pay, a Forward", api.Tx{Kind: api.Pay, Ins: []api.In{{From: api.Point{Tx: h(1), At: 255}, Key: h(800), Sig: api.Sig{Index: 7}}}, Forwards: []api.Forward{{Side: 6, Account: 0xfffe, Owner: h(1), Amount: mostMoney}}},
			slices.Concat([]byte{2, 1}, out, []byte{255}, key, []byte{7}, make([]byte, 280), []byte{0, 1, 6, 0xfe, 0xff}, out, []byte{0, 0, 0, 0, 0, 0, 4})},
		{"Certify, nothing paid", api.Tx{Kind: api.Certify, Cert: api.Cert{Side: 7, Epoch: 400, Quality: mostQuality, End: h(1), Root: h(800), Sigs: []api.Signed{{Key: 4, Sig: api.Sig{Index: 255}}}}},
			slices.Concat([]byte{4, 7, 144, 1, 0, 0, 255, 255, 255, 127}, out, key, []byte{0, 1, 4, 255}, make([]byte, 280))},
	} {
		if got, err := tx.Encode(c.x); err != api.OK || !bytes.Equal(got, c.bytes) {
			t.Errorf("%s: %v, %v, want %v", c.what, got, err, c.bytes)
		}
		decoded(t, c.what, c.bytes, c.x, api.OK)
	}
}

// P10.2: how long the greatest of each kind are.
func TestGreatest(t *testing.T) {
	for i, n := range []int{246, 2916, 45, 1678, 148} {
		if b, err := tx.Encode(greatest(kinds[i])); err != api.OK || len(b) != n {
			t.Errorf("kind %d: %d bytes, %v, want %d", kinds[i], len(b), err, n)
		}
	}
}

// P10.2: what may be is written as the chapter lays it, and read again.
func TestBothWays(t *testing.T) {
	r := rand.New(rand.NewSource(10))
	for _, kind := range kinds {
		l := []api.Tx{of(kind), greatest(kind)}
		for range 200 {
			l = append(l, random(r, kind))
		}
		for _, x := range l {
			b, err := tx.Encode(x)
			if err != api.OK || !bytes.Equal(b, bytesOf(x)) {
				t.Fatalf("kind %d: %d bytes, %v, other than %d", kind, len(b), err, len(bytesOf(x)))
			}
			decoded(t, "written", b, x, api.OK)
		}
	}
}

// P10.2: each number at each bound is written, and read again; past them, where the bytes
// have room for it, it is read and refused.
func TestNumbersBothWays(t *testing.T) {
	for _, f := range numbers {
		for _, n := range around(f.low, f.high) {
			x := of(f.kind)
			*f.at(&x) = n
			b := bytesOf(x)
			if f.low <= n && n <= f.high {
				decoded(t, f.name, b, x, api.OK)
				continue
			}
			whole, err := read(b)
			decoded(t, f.name, b, whole, err)
			if n == f.high+1 && f.high != 255 && f.high != 65535 && err != api.ErrForm {
				t.Errorf("%s: one past it is %v", f.name, err)
			}
		}
	}
}

// P10.2: bytes that end too early are too short, wherever they end; more of them are
// another form.
func TestEnds(t *testing.T) {
	for _, kind := range kinds {
		for _, x := range []api.Tx{of(kind), greatest(kind)} {
			b, _ := tx.Encode(x)
			for n := range b {
				refused(t, "a beginning", b[:n], api.ErrShort)
			}
			refused(t, "a nought behind it", append(slices.Clone(b), 0), api.ErrForm)
			refused(t, "itself behind it", append(slices.Clone(b), b...), api.ErrForm)
		}
	}
	refused(t, "nothing", nil, api.ErrShort)
	refused(t, "an empty list", []byte{}, api.ErrShort)
}

// P10.2, P3.2: too many bytes are too long, whatever they are.
func TestLong(t *testing.T) {
	for _, kind := range append([]int{0, 6, 255}, kinds...) {
		b := make([]byte, mostBytes+1)
		b[0] = byte(kind)
		refused(t, "one too many", b, api.ErrLong)
		refused(t, "as many as may be", b[:mostBytes], api.ErrForm)
	}
	b, _ := tx.Encode(of(api.Coinbase))
	refused(t, "one that may be, and more", append(b, make([]byte, mostBytes)...), api.ErrLong)
}

// P10.2: of a kind that there is not nothing is read but the kind.
func TestNoKind(t *testing.T) {
	for n := range 256 {
		if n >= 1 && n <= 5 {
			refused(t, "a kind alone", []byte{byte(n)}, api.ErrShort)
			continue
		}
		refused(t, "no kind", []byte{byte(n)}, api.ErrForm)
		for _, kind := range kinds {
			b := bytesOf(of(kind))
			b[0] = byte(n)
			refused(t, "no kind", b, api.ErrForm)
		}
	}
}

// P10.2: what is read whole, and may not be, is of another form.
func TestReadMayNot(t *testing.T) {
	for name, f := range owners {
		x := of(f.kind)
		*f.at(&x) = zero
		refused(t, name+" is zero", bytesOf(x), api.ErrForm)
	}
	for name, f := range others {
		x := of(f.kind)
		*f.at(&x) = zero
		decoded(t, name+" is zero", bytesOf(x), x, api.OK)
	}
	x := of(api.Pay)
	x.Ins[1].From = x.Ins[0].From
	refused(t, "one Point, twice", bytesOf(x), api.ErrForm)
	x = of(api.Pay)
	x.Outs, x.Forwards = nil, nil
	refused(t, "neither Outs nor Forwards", bytesOf(x), api.ErrForm)
	x = of(api.Create)
	x.Params.Keys[1] = x.Params.Keys[0]
	refused(t, "one of the Keys, twice", bytesOf(x), api.ErrForm)
	for n := range 256 {
		for _, x := range []api.Tx{
			{Kind: api.Coinbase, Height: 1, Outs: outs(n)},
			{Kind: api.Pay, Ins: ins(n), Outs: outs(1)},
			{Kind: api.Pay, Ins: ins(1), Outs: outs(n)},
			{Kind: api.Pay, Ins: ins(1), Forwards: forwards(n)},
			{Kind: api.Create, Params: params(n)},
			{Kind: api.Certify, Cert: cert(n, 1)},
			{Kind: api.Certify, Cert: cert(1, n)},
		} {
			if tx.May(x) {
				decoded(t, "lists that may be", bytesOf(x), x, api.OK)
			} else {
				refused(t, "lists that may not be", bytesOf(x), api.ErrForm)
			}
		}
	}
}

// P10.2: a list that says that it is longer than it is ends too early, one that says that
// it is shorter leaves bytes.
func TestListNumbers(t *testing.T) {
	for _, c := range []struct {
		name   string
		kind   int
		at     int
		behind bool // is it the last list?
	}{
		{"Outs of a coinbase", api.Coinbase, 5, true},
		{"Ins", api.Pay, 1, false},
		{"Forwards", api.Pay, 1 + 1 + 2*298 + 1 + 2*15, true},
		{"Keys", api.Create, 4, true},
		{"Outs of a Cert", api.Certify, 1 + 9 + 16, false},
		{"Sigs of a Cert", api.Certify, 1 + 9 + 16 + 1 + 2*15, true},
	} {
		for n := range 256 {
			b := bytesOf(of(c.kind))
			if b[c.at] != 2 {
				t.Fatalf("%s: there stands %d", c.name, b[c.at])
			}
			b[c.at] = byte(n)
			x, err := read(b)
			decoded(t, c.name, b, x, err)
			if c.behind && (n < 2 && err != api.ErrForm || n > 2 && err != api.ErrShort) {
				t.Errorf("%s: %d of them, %v", c.name, n, err)
			}
		}
	}
}

// P10.2: whatever stands at one byte, it is read as another reader reads it.
func TestOneByte(t *testing.T) {
	for _, kind := range kinds {
		whole := bytesOf(of(kind))
		for i := range whole {
			for _, c := range []byte{0, 1, 2, 3, 4, 5, 7, 8, 9, 16, 17, 63, 65, 127, 128, 255, whole[i] ^ 1, whole[i] ^ 128} {
				b := slices.Clone(whole)
				b[i] = c
				x, err := read(b)
				decoded(t, "one byte", b, x, err)
			}
		}
	}
}

// P10.2, R1: so is noise.
func TestNoise(t *testing.T) {
	r := rand.New(rand.NewSource(20))
	for range 30000 {
		b := make([]byte, r.Intn(400))
		for i := range b {
			b[i] = byte(r.Intn(256) >> r.Intn(8))
		}
		if len(b) > 0 && r.Intn(8) > 0 {
			b[0] = byte(1 + r.Intn(5))
		}
		x, err := read(b)
		decoded(t, "noise", b, x, err)
	}
}

// R4: what is handed in stays as it was, spare room too; what is answered is new, and no
// two lists of it share any.
func TestMemory(t *testing.T) {
	for _, kind := range kinds {
		x := greatest(kind)
		x.Ins, x.Outs, x.Forwards = spare(x.Ins), spare(x.Outs), spare(x.Forwards)
		x.Params.Keys, x.Cert.Outs, x.Cert.Sigs = spare(x.Params.Keys), spare(x.Cert.Outs), spare(x.Cert.Sigs)
		before := []any{withSpare(x.Ins), withSpare(x.Outs), withSpare(x.Forwards), withSpare(x.Params.Keys), withSpare(x.Cert.Outs), withSpare(x.Cert.Sigs)}
		b, _ := tx.Encode(x)
		tx.May(x)
		tx.ID(x)
		tx.Message(x, 0)
		tx.CertMessage(x.Cert)
		tx.Same(x, x)
		after := []any{withSpare(x.Ins), withSpare(x.Outs), withSpare(x.Forwards), withSpare(x.Params.Keys), withSpare(x.Cert.Outs), withSpare(x.Cert.Sigs)}
		if !reflect.DeepEqual(before, after) {
			t.Errorf("kind %d: a list that was handed in is changed", kind)
		}
		want := twin(x)
		clear(x.Ins[:cap(x.Ins)])
		clear(x.Outs[:cap(x.Outs)])
		clear(x.Cert.Sigs[:cap(x.Cert.Sigs)])
		decoded(t, "written ahead of that", b, want, api.OK)

		given := append(b, 1, 2, 3)
		kept := slices.Clone(given)
		got, _ := tx.Decode(given[:len(b)])
		if !bytes.Equal(given, kept) {
			t.Errorf("kind %d: bytes that were handed in are changed", kind)
		}
		clear(given)
		if !alike(got, want) {
			t.Errorf("kind %d: bytes that were handed in are kept", kind)
		}
		one, _ := tx.Encode(want)
		two, _ := tx.Encode(want)
		clear(one[:cap(one)])
		if !bytes.Equal(two, bytesOf(want)) {
			t.Errorf("kind %d: two answers share bytes", kind)
		}
	}
	c, _ := tx.Decode(bytesOf(greatest(api.Pay)))
	clear(c.Outs[:cap(c.Outs)])
	if !slices.Equal(c.Ins, ins(mostIns)) || !slices.Equal(c.Forwards, forwards(mostOuts)) {
		t.Error("two lists of one answer share memory")
	}
}

// spare is a list with room behind it that is not zero.
func spare[T any](l []T) []T {
	if len(l) == 0 {
		return nil
	}
	return append(slices.Clone(l), l[0], l[0])[:len(l)]
}

// withSpare is a list with its spare room.
func withSpare[T any](l []T) []T { return slices.Clone(l[:cap(l)]) }
