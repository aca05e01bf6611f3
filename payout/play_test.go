package payout_test

import (
	"math/rand"
	"testing"

	"drawbridge/api"
	"drawbridge/cert"
	"drawbridge/keytree"
	"drawbridge/payout"
	"drawbridge/registry"
	"drawbridge/tx"
	"drawbridge/utxo"
)

// certify lets a certificate of an epoch, that pays these amounts, be taken.
func certify(t *testing.T, s *registry.State, certifier *keytree.Tree, side, e, height int, amounts ...int) {
	t.Helper()
	c := api.Cert{Side: side, Epoch: e, Quality: height, End: api.Hash{'e', byte(e)}, Root: api.Hash{'r', byte(e), byte(height)}, Outs: outs(amounts...)}
	m, _ := tx.CertMessage(c)
	sig, _ := certifier.Sign(e%8, m)
	c.Sigs = []api.Signed{{Key: 0, Sig: sig}}
	if err := cert.Take(s, c, height, c.End); err != ok {
		t.Fatalf("Take for epoch %d at %d: %v", e, height, err)
	}
}

// P15.1, T5: a side for which a certificate is taken in each window goes on, and what it
// pays is coins when the window ends; without one it has Ceased then. A Forward in the
// window is no hindrance, and no money comes or goes.
func TestGoesOn(t *testing.T) {
	certifier := keytree.New(api.Hash{'c'})
	for _, window := range []int{1, 2, 3, 4} {
		s, u := registry.New(), rich(t)
		for range 2 {
			s.Create(api.Params{Length: 4, Window: window, Need: 1, Keys: []api.Hash{certifier.Root()}}, 3)
		}
		for i := range 2 {
			s.Forward(api.Forward{Side: i, Amount: 500})
		}
		all := 33 + 1000
		for e := range 12 {
			end := 3 + 4*(e+1)
			for height := end + 1; height <= end+window; height++ {
				certify(t, s, certifier, 0, e, height, 1+e, 2)
				if e < 5 {
					certify(t, s, certifier, 1, e, height, 10)
				}
				s.Forward(api.Forward{Side: 0, Amount: 3})
				all += 3
				before := u.Len()
				if err := payout.End(s, u, height); err != ok {
					t.Fatal(err)
				}
				x, _ := s.Side(0)
				if last := height == end+window; x.Ceased || x.Pending == last || last != (u.Len() > before) || last != (x.Root == api.Hash{'r', byte(e), byte(height)}) {
					t.Errorf("Window %d, epoch %d at %d: %+v, %d coins more", window, e, height, x, u.Len()-before)
				}
				if x.Balance+x.Matured != x.Forwarded || s.Total()+u.Total() != all {
					t.Errorf("Window %d at %d: Balance %d, Matured %d, Forwarded %d, all %d of %d", window, height, x.Balance, x.Matured, x.Forwarded, s.Total()+u.Total(), all)
				}
			}
			if y, _ := s.Side(1); y.Ceased != (e >= 5) || e >= 5 && (y.At != 27+window || y.Balance != 450 || y.Matured != 50 || y.Root != api.Hash{'r', 4, byte(23 + window)}) {
				t.Errorf("Window %d, epoch %d: side 1: %+v", window, e, y)
			}
		}
	}
}

// P15.1: the best that came in its window is paid, it alone.
func TestBest(t *testing.T) {
	certifier := keytree.New(api.Hash{'c'})
	s, u := registry.New(), utxo.New()
	s.Create(api.Params{Length: 4, Window: 3, Need: 1, Keys: []api.Hash{certifier.Root()}}, 3)
	s.Forward(api.Forward{Side: 0, Amount: 50})
	for height, amount := range map[int]int{8: 40, 9: 50, 10: 7} {
		twin, coins := s.Copy(), u.Copy()
		for h := 8; h <= height; h++ {
			certify(t, twin, certifier, 0, 0, h, map[int]int{8: 40, 9: 50, 10: 7}[h])
		}
		if err := payout.End(twin, coins, 10); err != ok {
			t.Fatal(err)
		}
		if c, there := coins.Get(paid(0, 0, api.Hash{'e'}, 0)); !there || c.Out.Amount != amount || coins.Len() != 1 || twin.Total() != 50-amount {
			t.Errorf("the one at %d: %v, %v", height, c, there)
		}
	}
}

// anySide is one of a play, more often with a certificate that is due than not.
func anySide(random *rand.Rand, height int) registry.Side {
	x := whole(random.Intn(200))
	x.Params.Length, x.Params.Window = 1+random.Intn(5), random.Intn(4)
	x.Ceased, x.Pending = random.Intn(9) == 0, random.Intn(9) > 0
	x.Made = max(0, height-x.Params.Window-x.Params.Length*(1+random.Intn(3))-random.Intn(5)/4)
	e, _ := payout.Due(x, height)
	if x.Cert.Epoch = e; random.Intn(9) == 0 {
		x.Cert.Epoch = random.Intn(4)
	}
	var amounts []int
	for range random.Intn(5) {
		amounts = append(amounts, 1+random.Intn(50))
	}
	if random.Intn(30) == 0 {
		amounts = append(amounts, 0, 5)
	}
	x.Cert.Outs = outs(amounts...)
	x.Cert.End = api.Hash{byte(random.Intn(3))}
	return x
}

// P15.1: long plays, held against the model.
func TestPlays(t *testing.T) {
	told := map[api.Errno]int{}
	stopped, matured := 0, 0
	for seed := range 40 {
		random := rand.New(rand.NewSource(int64(seed)))
		s, u := stateOf(t, make([]registry.Side, 1+seed%mostSides)...), rich(t)
		m := modelOf(s, u, 3)
		for height := range 60 {
			for i := range m.row {
				if random.Intn(3) == 0 {
					m.row[i] = anySide(random, height+random.Intn(2))
					s.Set(i, m.row[i])
				}
			}
			coins, was := u.Len(), ceased(m.row)
			wanted := m.end(height)
			told[wanted]++
			if err := payout.End(s, u, height); err != wanted {
				t.Fatalf("End at %d: %v, want %v", height, err, wanted)
			}
			like(t, "play", s, m.row)
			holds(t, "play", u, m.coins, m.steps)
			stopped, matured = stopped+ceased(m.row)-was, matured+u.Len()-coins
		}
	}
	if told[ok] < 100 || told[errInput] < 5 || told[errMoney] < 5 || stopped < 100 || matured < 100 {
		t.Errorf("the plays told %v, %d ceased, %d coins", told, stopped, matured)
	}
}

// ceased is how many of these have Ceased.
func ceased(row []registry.Side) int {
	n := 0
	for _, x := range row {
		if x.Ceased {
			n++
		}
	}
	return n
}
