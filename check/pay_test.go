package check_test

import (
	"math"
	"math/rand"
	"testing"

	"drawbridge/api"
	"drawbridge/check"
	"drawbridge/tx"
	"drawbridge/utxo"
)

// P12.1: what is no Pay that may be is refused, whatever is there; of many faults that is
// told first.
func TestForm(t *testing.T) {
	full, empty := rich(t, 9), utxo.New()
	for what, change := range map[string]func(x *api.Tx){
		"zero":              func(x *api.Tx) { *x = api.Tx{} },
		"a Pay of nothing":  func(x *api.Tx) { *x = api.Tx{Kind: api.Pay} },
		"kind 0":            func(x *api.Tx) { x.Kind = 0 },
		"kind 6":            func(x *api.Tx) { x.Kind = 6 },
		"kind 258":          func(x *api.Tx) { x.Kind = 258 },
		"a Coinbase's kind": func(x *api.Tx) { x.Kind = api.Coinbase },
		"no Ins":            func(x *api.Tx) { x.Ins = nil },
		"nine Ins": func(x *api.Tx) {
			x.Ins = payOf(t, count(8), outs(1), nil).Ins
			x.Ins = append(x.Ins, api.In{From: at(8)})
		},
		"one Point, twice":      func(x *api.Tx) { x.Ins[1] = x.Ins[0] },
		"At -1":                 func(x *api.Tx) { x.Ins[0].From.At = -1 },
		"At 256":                func(x *api.Tx) { x.Ins[1].From.At = lastAt + 1 },
		"Index -1":              func(x *api.Tx) { x.Ins[0].Sig.Index = -1 },
		"Index 256":             func(x *api.Tx) { x.Ins[1].Sig.Index = 256 },
		"neither Outs nor more": func(x *api.Tx) { x.Outs, x.Forwards = nil, nil },
		"an Out of nobody":      func(x *api.Tx) { x.Outs[0].To = api.Hash{} },
		"an Out of 0":           func(x *api.Tx) { x.Outs[0].Amount = 0 },
		"an Out of -1":          func(x *api.Tx) { x.Outs[0].Amount = -1 },
		"an Out of too much":    func(x *api.Tx) { x.Outs[0].Amount = most + 1 },
		"17 Outs":               func(x *api.Tx) { x.Outs = outs(make([]int, 17)...) },
		"17 Forwards":           func(x *api.Tx) { x.Forwards = forwards(make([]int, 17)...) },
		"Side 8":                func(x *api.Tx) { x.Forwards[0].Side = 8 },
		"Account 65536":         func(x *api.Tx) { x.Forwards[0].Account = 65536 },
		"a Forward of -5":       func(x *api.Tx) { x.Forwards[0].Amount = -5 },
		"a Forward of nobody":   func(x *api.Tx) { x.Forwards[0].Owner = api.Hash{} },
		"a Height":              func(x *api.Tx) { x.Height = 1 },
		"Params":                func(x *api.Tx) { x.Params.Need = 1 },
		"a Cert":                func(x *api.Tx) { x.Cert.Side = 1 },
		"a Claim":               func(x *api.Tx) { x.Claim.Account = 1 },
	} {
		x := payOf(t, count(2), outs(3), forwards(4))
		pays(t, "plain", full, x, now, 14, api.OK)
		change(&x)
		fails(t, what, full, x, now, api.ErrForm)
		fails(t, what+", nothing there", empty, x, now, api.ErrForm)
		fails(t, what+", early", full, x, math.MinInt, api.ErrForm)
	}
}

// P12.1: others than a Pay are refused, though they may be.
func TestOtherKinds(t *testing.T) {
	s := rich(t, 3)
	sig := payOf(t, count(1), outs(1), nil).Ins[0].Sig
	for _, x := range []api.Tx{
		{Kind: api.Coinbase, Height: 1, Outs: outs(3)},
		{Kind: api.Coinbase, Height: 1},
		{Kind: api.Create, Params: api.Params{Length: 4, Window: 2, Need: 1, Keys: []api.Hash{root(0)}}},
		{Kind: api.Certify, Cert: api.Cert{Outs: outs(3), Sigs: []api.Signed{{Sig: sig}}}},
		{Kind: api.Withdraw, Claim: api.Claim{State: api.Account{Owner: root(0), Amount: 5}}},
	} {
		if !tx.May(x) {
			t.Fatalf("kind %d: one that may not be", x.Kind)
		}
		fails(t, "another kind", s, x, now, api.ErrForm)
	}
}

// P12.1: an In whose coin is not there, or another's than the Key, wherever it stands; the
// signature is right for the Key that it tells.
func TestInput(t *testing.T) {
	for n := 1; n <= mostIns; n++ {
		for i := range n {
			x := payOf(t, count(n), outs(3), nil)
			s := rich(t, n)
			pays(t, "plain", s, x, now, s.Total()-3, api.OK)
			s.Spend(at(i))
			fails(t, "spent", s, x, now, api.ErrInput)
			c := coin(i+1, 10)
			s.Add(at(i), c)
			fails(t, "another's", s, x, now, api.ErrInput)
			s.Spend(at(i))
			c.Out.To = root(i)
			c.Out.To[7] ^= 1
			s.Add(at(i), c)
			fails(t, "another's by one bit", s, x, now, api.ErrInput)
			s.Spend(at(i))
			s.Add(at(i), coin(i, 10))
			pays(t, "plain again", s, x, now, s.Total()-3, api.OK)

			who := count(n)
			who[i]++
			fails(t, "signed by another", rich(t, n), sign(t, x, who...), now, api.ErrInput)
		}
	}
}

// P12.1: a Point is a Tx and an At: with another one there is no such coin.
func TestPoint(t *testing.T) {
	for what, change := range map[string]func(p *api.Point){
		"a place on":       func(p *api.Point) { p.At++ },
		"the first place":  func(p *api.Point) { p.At = 0 },
		"the last place":   func(p *api.Point) { p.At = lastAt },
		"the last byte":    func(p *api.Point) { p.Tx[7] ^= 1 },
		"the first byte":   func(p *api.Point) { p.Tx[0] ^= 128 },
		"nothing":          func(p *api.Point) { p.Tx = api.Hash{} },
		"the other's Tx":   func(p *api.Point) { p.Tx = at(2).Tx },
		"the zero Point":   func(p *api.Point) { *p = api.Point{} },
		"one far from all": func(p *api.Point) { *p = at(500) },
	} {
		x := payOf(t, []int{0, 1}, outs(3), nil)
		change(&x.Ins[1].From)
		fails(t, what, rich(t, 3), sign(t, x, 0, 1), now, api.ErrInput)
	}
}

// P12.1: the zero Key is nobody's: it is not the To of a coin that there is not, and where
// it is one's To there is no signature.
func TestZeroKey(t *testing.T) {
	x := payOf(t, count(2), outs(3), nil)
	x.Ins[1].Key = api.Hash{}
	signAt(t, &x, 0, 0, 0)
	fails(t, "no coin", rich(t, 1), x, now, api.ErrInput)
	fails(t, "somebody's", rich(t, 2), x, now, api.ErrInput)
	fails(t, "nobody's", setOf(t, coin(0, 10), utxo.Coin{Out: api.Out{Amount: 10}}), x, now, api.ErrSign)
	x.Ins[1].Sig = api.Sig{}
	fails(t, "nobody's, no signature", setOf(t, coin(0, 10), utxo.Coin{Out: api.Out{Amount: 10}}), x, now, api.ErrSign)
}

// P12.1: a Base may be spent when Wait blocks are behind its Height; another coin at once.
func TestWait(t *testing.T) {
	x := payOf(t, count(1), outs(3), nil)
	for _, c := range []struct {
		made, height int
		err          api.Errno
	}{
		{1, 1, api.ErrWait}, {1, 2, api.ErrWait}, {1, 3, api.OK}, {1, 4, api.OK}, {1, 400, api.OK},
		{10, 0, api.ErrWait}, {10, -5, api.ErrWait}, {10, 11, api.ErrWait}, {10, 12, api.OK}, {10, 13, api.OK},
		{0, 0, api.ErrWait}, {0, 1, api.ErrWait}, {0, 2, api.OK},
		{-2, 0, api.OK}, {-1, 0, api.ErrWait}, {-2, -1, api.ErrWait}, {-9, -7, api.OK}, {-9, -8, api.ErrWait},
		{400, 401, api.ErrWait}, {400, 402, api.OK}, {1 << 32, 3, api.ErrWait}, {1, 1 << 32, api.OK},
		{math.MaxInt, math.MaxInt, api.ErrWait}, {math.MaxInt - 1, math.MaxInt, api.ErrWait},
		{math.MaxInt - 2, math.MaxInt, api.OK}, {math.MaxInt - 2, math.MaxInt - 1, api.ErrWait},
		{math.MaxInt, math.MinInt, api.ErrWait}, {math.MaxInt - 1, math.MinInt, api.ErrWait}, {math.MaxInt, 0, api.ErrWait},
		{math.MinInt, math.MinInt, api.ErrWait}, {math.MinInt, math.MinInt + 1, api.ErrWait},
		{math.MinInt, math.MinInt + 2, api.OK}, {math.MinInt, math.MaxInt, api.OK}, {math.MinInt, 0, api.OK},
	} {
		left := 2
		if c.err != api.OK {
			left = 0
		}
		pays(t, "a Base", setOf(t, base(0, 5, c.made)), x, c.height, left, c.err)
		plain := base(0, 5, c.made)
		plain.Base = false
		pays(t, "no Base", setOf(t, plain), x, c.height, 2, api.OK)
	}
}

// P12.1: each of the Ins waits for itself.
func TestWaitEach(t *testing.T) {
	for n := 1; n <= mostIns; n++ {
		for i := range n {
			var l []utxo.Coin
			for k := range n {
				l = append(l, base(k, 5, 6))
			}
			l[i].Height = 7
			s, x := setOf(t, l...), payOf(t, count(n), outs(3), nil)
			fails(t, "one waits", s, x, 8, api.ErrWait)
			pays(t, "none waits", s, x, 9, 5*n-3, api.OK)
		}
	}
}

// P12.1: a signature is right whole, for its own key, place and transaction.
func TestSign(t *testing.T) {
	s := rich(t, 3)
	for i := range 3 {
		for what, bend := range map[string]func(sig *api.Sig){
			"no signature":      func(sig *api.Sig) { *sig = api.Sig{} },
			"an index alone":    func(sig *api.Sig) { *sig = api.Sig{Index: i} },
			"another index":     func(sig *api.Sig) { sig.Index ^= 1 },
			"index 8":           func(sig *api.Sig) { sig.Index = times },
			"an index 8 on":     func(sig *api.Sig) { sig.Index += times },
			"index 255":         func(sig *api.Sig) { sig.Index = 255 },
			"a bit of Open":     func(sig *api.Sig) { sig.Open[0][0] ^= 1 },
			"the last of Open":  func(sig *api.Sig) { sig.Open[15][7] ^= 128 },
			"a bit of Shut":     func(sig *api.Sig) { sig.Shut[0][0] ^= 1 },
			"the last of Shut":  func(sig *api.Sig) { sig.Shut[15][7] ^= 128 },
			"a bit of the Path": func(sig *api.Sig) { sig.Path[0][0] ^= 1 },
			"the Path's last":   func(sig *api.Sig) { sig.Path[2][7] ^= 128 },
			"Open and Shut":     func(sig *api.Sig) { sig.Open, sig.Shut = sig.Shut, sig.Open },
		} {
			x := payOf(t, count(3), outs(3), nil)
			bend(&x.Ins[i].Sig)
			fails(t, what, s, x, now, api.ErrSign)
		}
		for k := range 3 {
			x := payOf(t, count(3), outs(3), nil)
			if k != i {
				x.Ins[i].Sig = x.Ins[k].Sig
				fails(t, "the other's", s, x, now, api.ErrSign)
				x = payOf(t, count(3), outs(3), nil)
				signAt(t, &x, i, k, i)
				fails(t, "by another", s, x, now, api.ErrSign)
			}
		}
	}
}

// P12.1: each Key signs for its own place: where two are one owner's, they don't change.
func TestSignPlace(t *testing.T) {
	s := setOf(t, coin(0, 10), coin(0, 11))
	x := api.Tx{Kind: api.Pay, Ins: []api.In{{From: at(0)}, {From: at(1)}}, Outs: outs(3)}
	x = sign(t, x, 0, 0)
	pays(t, "one owner's two", s, x, now, 18, api.OK)
	x.Ins[0].Sig, x.Ins[1].Sig = x.Ins[1].Sig, x.Ins[0].Sig
	fails(t, "turned", s, x, now, api.ErrSign)
	for index := range times {
		for i := range 2 {
			x = sign(t, x, 0, 0)
			signAt(t, &x, i, 0, index)
			pays(t, "with each of its keys", s, x, now, 18, api.OK)
		}
	}
}

// P12.1: what is signed is all of it: who changes anything behind has no signature.
func TestSignAll(t *testing.T) {
	s := setOf(t, coin(0, 10), coin(1, 20), coin(2, 30), coin(0, 40))
	for what, change := range map[string]func(x *api.Tx){
		"an Out's To":          func(x *api.Tx) { x.Outs[1].To[3] ^= 1 },
		"an Out's Amount":      func(x *api.Tx) { x.Outs[1].Amount-- },
		"an Out fewer":         func(x *api.Tx) { x.Outs = x.Outs[:1] },
		"an Out more":          func(x *api.Tx) { x.Outs = outs(1, 2, 1) },
		"no Outs":              func(x *api.Tx) { x.Outs = nil },
		"Outs turned":          func(x *api.Tx) { x.Outs[0], x.Outs[1] = x.Outs[1], x.Outs[0] },
		"a Forward's Owner":    func(x *api.Tx) { x.Forwards[0].Owner[0] ^= 1 },
		"a Forward's Amount":   func(x *api.Tx) { x.Forwards[0].Amount++ },
		"a Forward's Side":     func(x *api.Tx) { x.Forwards[0].Side++ },
		"a Forward's Account":  func(x *api.Tx) { x.Forwards[0].Account++ },
		"a Forward fewer":      func(x *api.Tx) { x.Forwards = nil },
		"an In fewer":          func(x *api.Tx) { x.Ins = x.Ins[:1] },
		"another coin of his":  func(x *api.Tx) { x.Ins[0].From = at(3) },
		"an In more":           func(x *api.Tx) { x.Ins = append(x.Ins, api.In{From: at(2), Key: root(2)}); signAt(t, x, 2, 2, 2) },
		"Ins turned":           func(x *api.Tx) { x.Ins[0], x.Ins[1] = x.Ins[1], x.Ins[0] },
		"another Sig, of both": func(x *api.Tx) { x.Ins[0].Sig.Path[0][0]++; x.Ins[1].Sig.Path[0][0]++ },
	} {
		x := payOf(t, count(2), outs(1, 2), forwards(4))
		pays(t, "plain", s, x, now, 23, api.OK)
		change(&x)
		fails(t, what, s, x, now, api.ErrSign)
	}
}

// fault lets the In at a place have one.
type fault struct {
	err  api.Errno
	make func(s *utxo.Set, x *api.Tx, i int)
}

// faults are those of an In, in the order in which they are told.
func faults() []fault {
	return []fault{
		{api.ErrInput, func(s *utxo.Set, x *api.Tx, i int) {
			c, _ := s.Spend(x.Ins[i].From)
			c.Out.To[7] ^= 1
			s.Add(x.Ins[i].From, c)
		}},
		{api.ErrWait, func(s *utxo.Set, x *api.Tx, i int) {
			c, _ := s.Spend(x.Ins[i].From)
			c.Base, c.Height = true, now-1
			s.Add(x.Ins[i].From, c)
		}},
		{api.ErrSign, func(s *utxo.Set, x *api.Tx, i int) { x.Ins[i].Sig.Open[3][3] ^= 8 }},
	}
}

// P12.1, R6: of an In's errors that of the coin is told first, that of the signature last;
// money behind them all.
func TestOrder(t *testing.T) {
	for set := range 1 << 3 {
		for i := range 3 {
			for _, amount := range []int{3, 33, 34, most} {
				s, x := rich(t, 3), payOf(t, count(3), outs(amount), nil)
				err := api.OK
				if amount > s.Total() {
					err = api.ErrMoney
				}
				left := s.Total() - amount
				for k := 2; k >= 0; k-- {
					if f := faults()[k]; set>>k&1 == 1 {
						f.make(s, &x, i)
						err = f.err
					}
				}
				if err != api.OK {
					left = 0
				}
				pays(t, "faults of one", s, x, now, left, err)
			}
		}
	}
}

// P12.1: one In after another: the first that has a fault tells it, whatever the next have.
func TestOneAfterAnother(t *testing.T) {
	for i := range 4 {
		for k := i + 1; k < 4; k++ {
			for _, first := range faults() {
				for _, second := range faults() {
					s, x := rich(t, 4), payOf(t, count(4), outs(3), nil)
					second.make(s, &x, k)
					fails(t, "the second alone", s, x, now, second.err)
					first.make(s, &x, i)
					fails(t, "both", s, x, now, first.err)
				}
			}
		}
	}
}

// P12.1: the fee is what is between the coins and all that is given away.
func TestFee(t *testing.T) {
	for what, c := range map[string]struct {
		coins, outs, forwards []int
		left                  int
		err                   api.Errno
	}{
		"all of it":               {[]int{5}, []int{5}, nil, 0, api.OK},
		"all but one":             {[]int{5}, []int{4}, nil, 1, api.OK},
		"one":                     {[]int{5}, []int{1}, nil, 4, api.OK},
		"one too many":            {[]int{5}, []int{6}, nil, 0, api.ErrMoney},
		"all forwarded":           {[]int{5}, nil, []int{5}, 0, api.OK},
		"some forwarded":          {[]int{5}, nil, []int{2}, 3, api.OK},
		"too much forwarded":      {[]int{5}, nil, []int{6}, 0, api.ErrMoney},
		"both":                    {[]int{5}, []int{2}, []int{3}, 0, api.OK},
		"both, some left":         {[]int{9}, []int{2}, []int{3}, 4, api.OK},
		"too much of both":        {[]int{5}, []int{3}, []int{3}, 0, api.ErrMoney},
		"three coins":             {[]int{5, 6, 7}, []int{9}, []int{8}, 1, api.OK},
		"three coins, none left":  {[]int{5, 6, 7}, []int{9, 1}, []int{4, 4}, 0, api.OK},
		"three coins, too few":    {[]int{5, 6, 7}, []int{9, 1}, []int{4, 5}, 0, api.ErrMoney},
		"eight coins":             {[]int{1, 2, 3, 4, 5, 6, 7, 8}, []int{1}, nil, 35, api.OK},
		"many Outs":               {[]int{100}, []int{1, 2, 3, 4, 5, 6, 7, 8, 9, 10, 11, 12, 1, 1, 1, 1}, nil, 18, api.OK},
		"all there is":            {[]int{most}, []int{most}, nil, 0, api.OK},
		"all there is, forwarded": {[]int{most}, nil, []int{most}, 0, api.OK},
		"all there is, as fee":    {[]int{most}, []int{1}, nil, most - 1, api.OK},
		"all there is, in two":    {[]int{most - 1, 1}, []int{1, most - 2}, []int{1}, 0, api.OK},
		"one above":               {[]int{most}, []int{most, 1}, nil, 0, api.ErrMoney},
		"one above, forwarded":    {[]int{most}, []int{1}, []int{most}, 0, api.ErrMoney},
		"above, of little":        {[]int{5}, []int{most, most}, nil, 0, api.ErrMoney},
		"far above":               {[]int{most}, filled(mostOuts, most), filled(mostOuts, most), 0, api.ErrMoney},
		"far above, forwarded":    {[]int{5}, nil, filled(mostOuts, most), 0, api.ErrMoney},
	} {
		var l []utxo.Coin
		for n, amount := range c.coins {
			l = append(l, coin(n, amount))
		}
		s, x := setOf(t, l...), payOf(t, count(len(l)), outs(c.outs...), forwards(c.forwards...))
		pays(t, what, s, x, now, c.left, c.err)
		if n, err := want(s, x, now); n != c.left || err != c.err {
			t.Errorf("%s: the model has %d, %v", what, n, err)
		}
	}
}

// filled is a row of n times one number.
func filled(n, number int) []int {
	l := make([]int, n)
	for i := range l {
		l[i] = number
	}
	return l
}

// P12.1: the coins that are not spent add nothing to the fee.
func TestFeeOfIns(t *testing.T) {
	s := setOf(t, coin(0, 1000), coin(1, 20), coin(2, 300))
	for _, places := range [][]int{{0}, {1}, {2}, {0, 1}, {1, 0}, {2, 1}, {2, 0, 1}} {
		sum := 0
		for _, n := range places {
			c, _ := s.Get(at(n))
			sum += c.Out.Amount
		}
		pays(t, "these", s, payOf(t, places, outs(7), nil), now, sum-7, api.OK)
		pays(t, "these, all", s, payOf(t, places, outs(sum-1), forwards(1)), now, 0, api.OK)
		fails(t, "these, and one", s, payOf(t, places, outs(sum), forwards(1)), now, api.ErrMoney)
	}
}

// P12.1: Pay does nothing: the same again has the same answer, also where a Set has spare
// room, and what is undone is there again.
func TestPayAgain(t *testing.T) {
	s := rich(t, 4)
	u := s.Mark()
	x := payOf(t, count(4), outs(3), forwards(4))
	for range 3 {
		pays(t, "again", s, x, now, s.Total()-7, api.OK)
		if n, err := check.Do(s, x, now); err != api.OK || n != 46-7 {
			t.Fatalf("Do: %d, %v", n, err)
		}
		fails(t, "twice", s, x, now, api.ErrInput)
		if !s.Back(u) {
			t.Fatal("Back: false")
		}
	}
	like(t, "back", s, rich(t, 4))
}

// P12.1: payments of all kinds, held against the model.
func TestPays(t *testing.T) {
	r := rand.New(rand.NewSource(12))
	told := map[api.Errno]int{}
	for range 600 {
		n := 1 + r.Intn(4)
		var l []utxo.Coin
		for i := range n {
			c := coin(i, 1+r.Intn(20))
			c.Base, c.Height = r.Intn(3) == 0, now-4+r.Intn(4)
			l = append(l, c)
		}
		s, x := setOf(t, l...), payOf(t, r.Perm(n), outs(filled(r.Intn(4), 1+r.Intn(9))...), forwards(1+r.Intn(9)))
		switch r.Intn(6) {
		case 0:
			faults()[r.Intn(3)].make(s, &x, r.Intn(n))
		case 1:
			faults()[2].make(s, &x, r.Intn(n))
			s.Spend(at(r.Intn(n)))
		case 2:
			x.Ins[r.Intn(n)].From = at(r.Intn(n + 1))
		}
		left, err := want(s, x, now)
		pays(t, "one of many", s, x, now, left, err)
		told[err]++
	}
	for _, err := range []api.Errno{api.OK, api.ErrForm, api.ErrInput, api.ErrWait, api.ErrSign, api.ErrMoney} {
		if told[err] < 5 {
			t.Errorf("%v: %d times", err, told[err])
		}
	}
}
