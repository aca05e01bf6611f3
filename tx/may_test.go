package tx_test

import (
	"slices"
	"testing"

	"drawbridge/api"
	"drawbridge/quorum"
	"drawbridge/tx"
)

// asked tells where May answers otherwise, and where another call takes what may not be, or
// doesn't take what may be.
func asked(t *testing.T, what string, x api.Tx, want bool) {
	t.Helper()
	if got := tx.May(x); got != want {
		t.Errorf("%s, kind %d: May %v, want %v", what, x.Kind, got, want)
		return
	}
	b, err := tx.Encode(x)
	id, ok := tx.ID(x)
	m, signs := tx.Message(x, 0)
	switch {
	case !want && (err != api.ErrArg || len(b) > 0):
		t.Errorf("%s, kind %d: Encode answers %d bytes, %v", what, x.Kind, len(b), err)
	case want && (err != api.OK || len(b) == 0):
		t.Errorf("%s, kind %d: Encode answers %d bytes, %v", what, x.Kind, len(b), err)
	case ok != want || ok != (id != zero):
		t.Errorf("%s, kind %d: ID answers %v, %v", what, x.Kind, id, ok)
	case tx.Same(x, x) != want:
		t.Errorf("%s, kind %d: Same %v", what, x.Kind, !want)
	case signs != (want && x.Kind == api.Pay) || signs != (m != zero):
		t.Errorf("%s, kind %d: Message answers %v, %v", what, x.Kind, m, signs)
	}
}

// The limits are the numbers that are written out.
func TestLimits(t *testing.T) {
	if api.MaxIns != mostIns || api.MaxOuts != mostOuts || api.MaxKeys != mostKeys || api.MaxSides != mostSides ||
		api.MaxBlocks != mostBlocks || api.Accounts != mostPlaces || api.MaxMoney != mostMoney || api.MaxBytes != mostBytes {
		t.Error("a limit is another number")
	}
}

// P10.1: of each kind one may be; with its fields, and another kind, none.
func TestMayKind(t *testing.T) {
	for _, kind := range kinds {
		asked(t, "two of each", of(kind), true)
		asked(t, "the greatest", greatest(kind), true)
		numbers := append([]int{}, far...)
		for n := range 600 {
			numbers = append(numbers, n-300)
		}
		for _, n := range numbers {
			x := of(kind)
			x.Kind = n
			asked(t, "another kind", x, n == kind)
			asked(t, "nothing but a kind", api.Tx{Kind: n}, false)
		}
	}
	asked(t, "the zero one", api.Tx{}, false)
}

// numbers are the fields that are numbers, of each list the last item's, and from what
// to what each may be.
var numbers = []struct {
	name      string
	kind      int
	at        func(x *api.Tx) *int
	low, high int
}{
	{"Height", api.Coinbase, func(x *api.Tx) *int { return &x.Height }, 1, mostBlocks},
	{"a coinbase Out's Amount", api.Coinbase, func(x *api.Tx) *int { return &x.Outs[1].Amount }, 1, mostMoney},
	{"a Point's At", api.Pay, func(x *api.Tx) *int { x.Ins[1].From.Tx = h(99); return &x.Ins[1].From.At }, 0, 255},
	{"an In's Sig's Index", api.Pay, func(x *api.Tx) *int { return &x.Ins[1].Sig.Index }, 0, 255},
	{"an Out's Amount", api.Pay, func(x *api.Tx) *int { return &x.Outs[1].Amount }, 1, mostMoney},
	{"the first Out's Amount", api.Pay, func(x *api.Tx) *int { return &x.Outs[0].Amount }, 1, mostMoney},
	{"a Forward's Side", api.Pay, func(x *api.Tx) *int { return &x.Forwards[1].Side }, 0, 7},
	{"a Forward's Account", api.Pay, func(x *api.Tx) *int { return &x.Forwards[1].Account }, 0, 65535},
	{"a Forward's Amount", api.Pay, func(x *api.Tx) *int { return &x.Forwards[1].Amount }, 1, mostMoney},
	{"Length", api.Create, func(x *api.Tx) *int { return &x.Params.Length }, 3, 64},
	{"Window", api.Create, func(x *api.Tx) *int { return &x.Params.Window }, 1, 64},
	{"Need", api.Create, func(x *api.Tx) *int { return &x.Params.Need }, 1, 2},
	{"a Cert's Side", api.Certify, func(x *api.Tx) *int { return &x.Cert.Side }, 0, 7},
	{"Epoch", api.Certify, func(x *api.Tx) *int { return &x.Cert.Epoch }, 0, mostBlocks},
	{"Quality", api.Certify, func(x *api.Tx) *int { return &x.Cert.Quality }, 0, mostQuality},
	{"a Cert's Out's Amount", api.Certify, func(x *api.Tx) *int { return &x.Cert.Outs[1].Amount }, 1, mostMoney},
	{"a Cert's Key", api.Certify, func(x *api.Tx) *int { return &x.Cert.Sigs[1].Key }, 0, 4},
	{"a Cert's Sig's Index", api.Certify, func(x *api.Tx) *int { return &x.Cert.Sigs[1].Sig.Index }, 0, 255},
	{"a Claim's Side", api.Withdraw, func(x *api.Tx) *int { return &x.Claim.Side }, 0, 7},
	{"a Claim's Account", api.Withdraw, func(x *api.Tx) *int { return &x.Claim.Account }, 0, 65535},
	{"a State's Amount", api.Withdraw, func(x *api.Tx) *int { return &x.Claim.State.Amount }, 1, mostMoney},
	{"a State's Nonce", api.Withdraw, func(x *api.Tx) *int { return &x.Claim.State.Nonce }, 0, 255},
}

// around are numbers within, at and past two bounds, and far ones.
func around(low, high int) []int {
	l := []int{low - 2, low - 1, low, low + 1, (low + high) / 2, high - 1, high, high + 1, high + 2, 2 * high, 2*high + 1, high + 257}
	for _, n := range far {
		l = append(l, n, n+low)
	}
	return l
}

// P10.1: each number at its bounds, and past them.
func TestMayNumbers(t *testing.T) {
	for _, f := range numbers {
		for _, n := range around(f.low, f.high) {
			x := of(f.kind)
			*f.at(&x) = n
			asked(t, f.name, x, f.low <= n && n <= f.high)
		}
	}
}

// owners are the hashes that name somebody, others those that may be zero.
var owners = map[string]struct {
	kind int
	at   func(x *api.Tx) *api.Hash
}{
	"a coinbase Out's To":   {api.Coinbase, func(x *api.Tx) *api.Hash { return &x.Outs[1].To }},
	"the first Out's To":    {api.Pay, func(x *api.Tx) *api.Hash { return &x.Outs[0].To }},
	"an Out's To":           {api.Pay, func(x *api.Tx) *api.Hash { return &x.Outs[1].To }},
	"a Forward's Owner":     {api.Pay, func(x *api.Tx) *api.Hash { return &x.Forwards[1].Owner }},
	"one of the Keys":       {api.Create, func(x *api.Tx) *api.Hash { return &x.Params.Keys[1] }},
	"a Cert's Out's To":     {api.Certify, func(x *api.Tx) *api.Hash { return &x.Cert.Outs[1].To }},
	"a Claim State's Owner": {api.Withdraw, func(x *api.Tx) *api.Hash { return &x.Claim.State.Owner }},
}

var others = map[string]struct {
	kind int
	at   func(x *api.Tx) *api.Hash
}{
	"a Point's Tx":        {api.Pay, func(x *api.Tx) *api.Hash { return &x.Ins[1].From.Tx }},
	"an In's Key":         {api.Pay, func(x *api.Tx) *api.Hash { return &x.Ins[1].Key }},
	"an In's Open":        {api.Pay, func(x *api.Tx) *api.Hash { return &x.Ins[1].Sig.Open[15] }},
	"an In's Shut":        {api.Pay, func(x *api.Tx) *api.Hash { return &x.Ins[1].Sig.Shut[15] }},
	"an In's Path":        {api.Pay, func(x *api.Tx) *api.Hash { return &x.Ins[1].Sig.Path[2] }},
	"End":                 {api.Certify, func(x *api.Tx) *api.Hash { return &x.Cert.End }},
	"Root":                {api.Certify, func(x *api.Tx) *api.Hash { return &x.Cert.Root }},
	"a Cert's Sig's Open": {api.Certify, func(x *api.Tx) *api.Hash { return &x.Cert.Sigs[0].Sig.Open[0] }},
	"a Claim's Proof":     {api.Withdraw, func(x *api.Tx) *api.Hash { return &x.Claim.Proof[0] }},
}

// P10.1: who has money is not zero; a byte of it is enough. Other hashes may be zero.
func TestMayHashes(t *testing.T) {
	for name, f := range owners {
		x := of(f.kind)
		*f.at(&x) = zero
		asked(t, name+" is zero", x, false)
		for i := range zero {
			*f.at(&x) = zero
			f.at(&x)[i] = 1
			asked(t, name+" is one byte", x, true)
		}
	}
	for name, f := range others {
		x := of(f.kind)
		*f.at(&x) = zero
		asked(t, name+" is zero", x, true)
	}
}

// P10.1: how many of each list there may be.
func TestMayMany(t *testing.T) {
	for n := range 40 {
		asked(t, "Outs of a coinbase", api.Tx{Kind: api.Coinbase, Height: 1, Outs: outs(n)}, n <= 16)
		asked(t, "Ins", api.Tx{Kind: api.Pay, Ins: ins(n), Outs: outs(1)}, n >= 1 && n <= 8)
		asked(t, "Outs", api.Tx{Kind: api.Pay, Ins: ins(1), Outs: outs(n)}, n >= 1 && n <= 16)
		asked(t, "Outs, and a Forward", api.Tx{Kind: api.Pay, Ins: ins(1), Outs: outs(n), Forwards: forwards(1)}, n <= 16)
		asked(t, "Forwards", api.Tx{Kind: api.Pay, Ins: ins(1), Forwards: forwards(n)}, n >= 1 && n <= 16)
		asked(t, "Forwards, and an Out", api.Tx{Kind: api.Pay, Ins: ins(1), Outs: outs(1), Forwards: forwards(n)}, n <= 16)
		asked(t, "Keys", api.Tx{Kind: api.Create, Params: params(n)}, n >= 1 && n <= 5)
		asked(t, "Outs of a Cert", api.Tx{Kind: api.Certify, Cert: cert(n, 1)}, n <= 16)
		asked(t, "Sigs of a Cert", api.Tx{Kind: api.Certify, Cert: cert(1, n)}, n >= 1 && n <= 5)
	}
	for _, n := range []int{255, 256, 257, 272, 1 << 16} {
		asked(t, "Outs of a coinbase", api.Tx{Kind: api.Coinbase, Height: 1, Outs: outs(n)}, false)
		asked(t, "Forwards", api.Tx{Kind: api.Pay, Ins: ins(1), Forwards: forwards(n)}, false)
	}
}

// P10.1: each item of a list is asked, wherever it stands.
func TestMayEachItem(t *testing.T) {
	for i := range mostIns {
		x := greatest(api.Pay)
		x.Ins[i].From.At = 256
		asked(t, "an At", x, false)
		x.Ins[i].From.At, x.Ins[i].Sig.Index = 77, -1
		asked(t, "an Index", x, false)
	}
	for i := range mostOuts {
		x := greatest(api.Pay)
		x.Outs[i].Amount = 0
		asked(t, "an Amount", x, false)
		x = greatest(api.Pay)
		x.Forwards[i].Owner = zero
		asked(t, "an Owner", x, false)
		x = greatest(api.Coinbase)
		x.Outs[i].To = zero
		asked(t, "a To", x, false)
		x = greatest(api.Certify)
		x.Cert.Outs[i].Amount = mostMoney + 1
		asked(t, "an Amount of a Cert", x, false)
	}
	for i := range mostKeys {
		x := greatest(api.Certify)
		x.Cert.Sigs[i].Key = mostKeys
		asked(t, "a Key of a Cert", x, false)
	}
}

// P10.1: no two Ins of one Point; one bit or place that is another is enough, a Key or a
// Sig is not.
func TestMayPoints(t *testing.T) {
	for n := 2; n <= mostIns; n++ {
		for i := range n {
			for j := range i {
				x := api.Tx{Kind: api.Pay, Ins: ins(n), Outs: outs(1)}
				x.Ins[i].From = api.Point{Tx: h(99), At: 200}
				x.Ins[j].From = x.Ins[i].From
				asked(t, "one Point, twice", x, false)
				x.Ins[j].From.At++
				asked(t, "another At", x, true)
				for bit := range 64 {
					x.Ins[j].From = x.Ins[i].From
					x.Ins[j].From.Tx[bit/8] ^= 1 << (bit % 8)
					asked(t, "another Tx", x, true)
				}
				x.Ins[j].Key, x.Ins[j].Sig = x.Ins[i].Key, x.Ins[i].Sig
				asked(t, "one Key and Sig", x, true)
			}
		}
	}
}

// P10.1: what stands twice elsewhere may be: the chapter asks Points alone.
func TestMayTwice(t *testing.T) {
	x := of(api.Pay)
	x.Outs[1], x.Forwards[1] = x.Outs[0], x.Forwards[0]
	asked(t, "one Out and Forward, twice", x, true)
	x = of(api.Certify)
	x.Cert.Outs[1], x.Cert.Sigs[1] = x.Cert.Outs[0], x.Cert.Sigs[0]
	asked(t, "one Out and Sig of a Cert, twice", x, true)
	x.Cert.Sigs[0].Key = 4
	asked(t, "Keys that fall", x, true)
}

// P10.1: a Create may be where quorum.May takes its Params.
func TestMayParams(t *testing.T) {
	for n := range 7 {
		for need := range 7 {
			for length := range 67 {
				for _, window := range []int{0, 1, length - 1, length, length + 1} {
					p := params(n)
					p.Need, p.Length, p.Window = need, length, window
					if got := tx.May(api.Tx{Kind: api.Create, Params: p}); got != quorum.May(p) {
						t.Fatalf("%d keys, Need %d, Length %d, Window %d: %v", n, need, length, window, got)
					}
				}
			}
		}
	}
	x := of(api.Create)
	x.Params.Keys[1] = x.Params.Keys[0]
	asked(t, "one key, twice", x, false)
}

// fields are one change of each field, and the kinds that have the field.
var fields = []struct {
	name   string
	change func(x *api.Tx)
	kinds  []int
}{
	{"Height", func(x *api.Tx) { x.Height = 1 }, []int{api.Coinbase}},
	{"Height below 0", func(x *api.Tx) { x.Height = -1 }, []int{api.Coinbase}},
	{"Ins", func(x *api.Tx) { x.Ins = ins(1) }, []int{api.Pay}},
	{"Ins, zero", func(x *api.Tx) { x.Ins = make([]api.In, 1) }, []int{api.Pay}},
	{"Outs", func(x *api.Tx) { x.Outs = outs(1) }, []int{api.Coinbase, api.Pay}},
	{"Outs, zero", func(x *api.Tx) { x.Outs = make([]api.Out, 1) }, []int{api.Coinbase, api.Pay}},
	{"Forwards", func(x *api.Tx) { x.Forwards = forwards(1) }, []int{api.Pay}},
	{"Forwards, zero", func(x *api.Tx) { x.Forwards = make([]api.Forward, 1) }, []int{api.Pay}},
	{"Length", func(x *api.Tx) { x.Params.Length = 2 }, []int{api.Create}},
	{"Window", func(x *api.Tx) { x.Params.Window = 1 }, []int{api.Create}},
	{"Need", func(x *api.Tx) { x.Params.Need = 1 }, []int{api.Create}},
	{"Keys", func(x *api.Tx) { x.Params.Keys = make([]api.Hash, 1) }, []int{api.Create}},
	{"Params", func(x *api.Tx) { x.Params = params(3) }, []int{api.Create}},
	{"a Cert's Side", func(x *api.Tx) { x.Cert.Side = 1 }, []int{api.Certify}},
	{"Epoch", func(x *api.Tx) { x.Cert.Epoch = 1 }, []int{api.Certify}},
	{"Quality", func(x *api.Tx) { x.Cert.Quality = 1 }, []int{api.Certify}},
	{"End", func(x *api.Tx) { x.Cert.End[7] = 1 }, []int{api.Certify}},
	{"Root", func(x *api.Tx) { x.Cert.Root[0] = 1 }, []int{api.Certify}},
	{"a Cert's Outs", func(x *api.Tx) { x.Cert.Outs = make([]api.Out, 1) }, []int{api.Certify}},
	{"Sigs", func(x *api.Tx) { x.Cert.Sigs = make([]api.Signed, 1) }, []int{api.Certify}},
	{"Cert", func(x *api.Tx) { x.Cert = cert(1, 1) }, []int{api.Certify}},
	{"a Claim's Side", func(x *api.Tx) { x.Claim.Side = -1 }, []int{api.Withdraw}},
	{"a Claim's Account", func(x *api.Tx) { x.Claim.Account = 1 }, []int{api.Withdraw}},
	{"a State's Owner", func(x *api.Tx) { x.Claim.State.Owner[3] = 1 }, []int{api.Withdraw}},
	{"a State's Amount", func(x *api.Tx) { x.Claim.State.Amount = 1 }, []int{api.Withdraw}},
	{"a State's Nonce", func(x *api.Tx) { x.Claim.State.Nonce = 1 }, []int{api.Withdraw}},
	{"Proof", func(x *api.Tx) { x.Claim.Proof[15][7] = 1 }, []int{api.Withdraw}},
	{"Claim", func(x *api.Tx) { x.Claim = claim() }, []int{api.Withdraw}},
}

// P10.1: a field that the kind has not is zero.
func TestMayOthersZero(t *testing.T) {
	for _, kind := range kinds {
		for _, f := range fields {
			if slices.Contains(f.kinds, kind) {
				continue
			}
			x := of(kind)
			f.change(&x)
			asked(t, "with "+f.name, x, false)
		}
	}
}

// P10.1, R4: an empty list is none.
func TestMayEmptyLists(t *testing.T) {
	for _, kind := range kinds {
		x, plain := of(kind), of(kind)
		for _, l := range []*[]api.Out{&x.Outs, &x.Cert.Outs} {
			if *l == nil {
				*l = make([]api.Out, 0, 3)
			}
		}
		if x.Ins == nil {
			x.Ins = []api.In{}
		}
		if x.Forwards == nil {
			x.Forwards = []api.Forward{}
		}
		if x.Params.Keys == nil {
			x.Params.Keys = []api.Hash{}
		}
		if x.Cert.Sigs == nil {
			x.Cert.Sigs = []api.Signed{}
		}
		asked(t, "with empty lists", x, true)
		if !tx.Same(x, plain) || !tx.Same(plain, x) {
			t.Errorf("kind %d: with empty lists it is another one", kind)
		}
	}
}
