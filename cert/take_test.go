package cert_test

import (
	"math"
	"math/big"
	"math/rand"
	"reflect"
	"slices"
	"testing"

	"drawbridge/api"
	"drawbridge/cert"
	"drawbridge/quorum"
	"drawbridge/registry"
	"drawbridge/tx"
)

// P14.1, Ways: a better one takes the place of the one that waits, all of it; one that is
// no better leaves it.
func TestBetter(t *testing.T) {
	x := good()
	s, row := x.state(t), rowOf(x.state(t))
	for k, quality := range []int{0, 0, 5, 3, 5, 6, 2, mostQuality - 1, mostQuality, mostQuality, 0} {
		x.c.Quality, x.c.Root, x.c.Outs = quality, api.Hash{byte(k)}, outs(count(k%5)...)
		for i := range x.c.Outs {
			x.c.Outs[i].Amount++
		}
		x.who = [][]int{{0, 1}, {1, 2}, {0, 1, 2}}[k%3]
		c := x.cert(t)
		wanted := ok
		if row[place].Pending && row[place].Cert.Quality >= quality {
			wanted = errQuality
		}
		if err := cert.Take(s, c, x.height+k%2, x.end); err != wanted {
			t.Errorf("Take of quality %d: %v, want %v", quality, err, wanted)
		}
		if wanted == ok {
			row[place].Pending, row[place].Cert = true, c
		}
		like(t, "better", s, row)
	}
}

// P14.1: no certificate changes a Balance, or what was forwarded, before its window ends.
func TestMoneyStays(t *testing.T) {
	x := good()
	s := x.state(t)
	total := s.Total()
	x.c.Outs = outs(100)
	if err := cert.Take(s, x.cert(t), x.height, x.end); err != ok {
		t.Fatal(err)
	}
	if got, _ := s.Side(place); got.Balance != 100 || got.Forwarded != 180 || got.Matured != 80 || got.Root != (api.Hash{6}) || s.Total() != total {
		t.Errorf("taken: %+v", got)
	}
	if err := s.Forward(api.Forward{Side: place, Amount: 5}); err != ok {
		t.Fatal(err)
	}
	if got, _ := s.Side(place); got.Balance != 105 || !got.Pending {
		t.Errorf("forwarded: %+v", got)
	}
}

// P14.1: Check takes nothing, however often it is asked.
func TestCheckAlone(t *testing.T) {
	x := good()
	s, row := x.state(t), rowOf(x.state(t))
	for range 3 {
		if err := cert.Check(s, x.cert(t), x.height, x.end); err != ok {
			t.Errorf("Check: %v", err)
		}
		like(t, "checked", s, row)
	}
}

// P14.1: what is taken of a Copy is taken of it alone.
func TestCopies(t *testing.T) {
	x := good()
	s := x.state(t)
	twin := s.Copy()
	row := rowOf(s)
	if err := cert.Take(twin, x.cert(t), x.height, x.end); err != ok {
		t.Fatal(err)
	}
	like(t, "the one", s, row)
	row[place].Pending, row[place].Cert = true, x.cert(t)
	like(t, "the other", twin, row)
}

// R4: a certificate's lists are not changed, spare room included, and not kept.
func TestLists(t *testing.T) {
	x := good()
	c := x.cert(t)
	sigs := append(slices.Clone(c.Sigs), api.Signed{Key: 4, Sig: api.Sig{Index: 9}})
	list := append(outs(30, 50), api.Out{To: api.Hash{9}, Amount: 9})
	c.Sigs, c.Outs = sigs[:2], list[:2]
	s, row := x.state(t), rowOf(x.state(t))
	for _, ask := range []func() api.Errno{
		func() api.Errno { return cert.Check(s, c, x.height, x.end) },
		func() api.Errno { return cert.Take(s, c, x.height, x.end) },
		func() api.Errno { cert.Sum(c); return ok },
	} {
		if err := ask(); err != ok {
			t.Fatal(err)
		}
		if !reflect.DeepEqual(c.Sigs, x.cert(t).Sigs) || !slices.Equal(list, append(outs(30, 50), api.Out{To: api.Hash{9}, Amount: 9})) || sigs[2] != (api.Signed{Key: 4, Sig: api.Sig{Index: 9}}) {
			t.Error("a list was changed")
		}
	}
	row[place].Pending, row[place].Cert = true, x.cert(t)
	clear(sigs)
	clear(list)
	like(t, "kept", s, row)
}

// P14.1: Sum is money.Sum of the Outs' Amounts, reckoned with numbers of any size; it asks
// neither whether c may be nor for whom they are.
func TestSum(t *testing.T) {
	for _, l := range [][]int{
		nil, {0}, {1}, {1, 2, 3}, {most}, {most, 0}, {0, most}, {most, 1}, {1, most}, {most - 1, 1}, {most - 1, 1, 1},
		{-1}, {5, -1}, {-1, 5}, {most + 1}, {most + 1, -1}, {most, 1, -1}, {math.MaxInt}, {math.MinInt}, {math.MaxInt, math.MaxInt, 2},
		{math.MinInt, math.MinInt}, {1, math.MaxInt}, slices.Repeat([]int{most / 16}, 16), slices.Repeat([]int{most / 16}, 17),
		slices.Repeat([]int{1}, 1000), slices.Repeat([]int{most}, 16), slices.Repeat([]int{1 << 60}, 16),
	} {
		sum, may := new(big.Int), true
		for _, n := range l {
			sum.Add(sum, big.NewInt(int64(n)))
			may = may && n >= 0
		}
		if may = may && sum.Cmp(big.NewInt(most)) <= 0; !may {
			sum.SetInt64(0)
		}
		for what, c := range map[string]api.Cert{"bare": {}, "good": good().c, "wrong": {Side: -1, Epoch: -1, Quality: -1}} {
			c.Outs = outs(l...)
			if n, fits := cert.Sum(c); int64(n) != sum.Int64() || fits != may {
				t.Errorf("%s: Sum of %v: %d, %v, want %v, %v", what, l, n, fits, sum, may)
			}
			for i := range c.Outs {
				c.Outs[i].To = api.Hash{}
			}
			if n, fits := cert.Sum(c); int64(n) != sum.Int64() || fits != may {
				t.Errorf("%s: Sum of %v to nobody: %d, %v, want %v, %v", what, l, n, fits, sum, may)
			}
		}
	}
}

// P14.2: of Params that may be, one epoch alone is open at a height.
func TestOneOpen(t *testing.T) {
	for length := 2; length <= longest; length += 1 + length/5 {
		for _, window := range []int{1, 2, length / 2, length - 1, length} {
			p := api.Params{Length: length, Window: window, Need: 1, Keys: keys(0, 1)}
			if !quorum.May(p) {
				continue
			}
			for _, made := range []int{0, 1, 3, lastBlock} {
				s := registry.New()
				s.Create(p, made)
				for height := made; height <= made+6*length; height++ {
					taken := 0
					for e := range 8 {
						c := api.Cert{Epoch: e, Sigs: []api.Signed{{}}}
						if err := cert.Check(s, c, height, api.Hash{}); err != errTime {
							taken++
						}
					}
					if taken > 1 {
						t.Fatalf("%v, made at %d: %d epochs are open at %d", p, made, taken, height)
					}
				}
			}
		}
	}
}

// P14.2: what waits was taken in the epoch that is open, where what is due at a window's
// end waits no more, as chapter 15 says.
func TestWaits(t *testing.T) {
	for _, p := range []api.Params{{Length: 2, Window: 2}, {Length: 2, Window: 1}, {Length: 3, Window: 3}, {Length: 4, Window: 2}} {
		p.Need, p.Keys = 1, keys(0, 1)
		s := registry.New()
		s.Create(p, 3)
		taken := 0
		for height := 4; height < 60; height++ {
			for k := range 15 {
				c := sign(t, api.Cert{Epoch: (k*7 + height) % 15, Quality: k % 4}, 0, 0)
				if cert.Take(s, c, height, api.Hash{}) == ok {
					taken++
				}
			}
			x, _ := s.Side(0)
			if x.Pending && !open(x, x.Cert.Epoch, height) {
				t.Fatalf("%v: one of epoch %d waits at %d", p, x.Cert.Epoch, height)
			}
			if x.Pending && x.Ends(x.Cert.Epoch)+p.Window == height {
				x.Pending, x.Cert = false, api.Cert{}
				s.Set(0, x)
			}
		}
		if taken < 10 {
			t.Errorf("%v: %d were taken", p, taken)
		}
	}
}

// anyCert is a certificate of a play, more often one that is taken than not.
func anyCert(t *testing.T, random *rand.Rand, s *registry.State, ends []api.Hash) (api.Cert, int, api.Hash) {
	c := api.Cert{Side: random.Intn(5), Epoch: random.Intn(4), Quality: random.Intn(9), Root: api.Hash{byte(random.Intn(256))}}
	for range random.Intn(4) {
		c.Outs = append(c.Outs, api.Out{To: api.Hash{1, byte(random.Intn(9))}, Amount: 1 + random.Intn(40)})
	}
	x, _ := s.Side(c.Side)
	height := max(0, x.Ends(c.Epoch)) + random.Intn(4)
	end := ends[c.Epoch]
	if c.End = end; random.Intn(12) == 0 {
		c.End = ends[random.Intn(len(ends))]
	}
	first := 5 * (c.Side % 2)
	if random.Intn(12) == 0 {
		first = 5 - first
	}
	who := []int{}
	for k := range mostKeys {
		if random.Intn(4) > 0 && (k < 3 || random.Intn(12) == 0) {
			who = append(who, k)
		}
	}
	c = sign(t, c, first, who...)
	if random.Intn(12) == 0 {
		c.Quality++
	}
	if random.Intn(20) == 0 {
		slices.Reverse(c.Sigs)
	}
	return c, height, end
}

// P14.1: long plays, held against the model.
func TestPlays(t *testing.T) {
	ends := []api.Hash{{1}, {2}, {3}, {4}}
	told := map[api.Errno]int{}
	for seed := range 20 {
		random := rand.New(rand.NewSource(int64(seed)))
		s := registry.New()
		for i := range sides {
			s.Create(api.Params{Length: 3 + i, Window: 2 + i%2, Need: 1 + i%2, Keys: keys(5*(i%2), 3)}, i)
			s.Forward(api.Forward{Side: i, Amount: 60})
		}
		row := rowOf(s)
		for range 150 {
			c, height, end := anyCert(t, random, s, ends)
			wanted := want(s, c, height, end)
			told[wanted]++
			if err := cert.Check(s, c, height, end); err != wanted {
				t.Fatalf("Check of %+v at %d: %v, want %v", c, height, err, wanted)
			}
			like(t, "checked", s, row)
			if err := cert.Take(s, c, height, end); err != wanted {
				t.Fatalf("Take of %+v at %d: %v, want %v", c, height, err, wanted)
			}
			if wanted == ok {
				row[c.Side].Pending, row[c.Side].Cert = true, c
			}
			if i := random.Intn(sides); random.Intn(6) == 0 {
				row[i].Pending, row[i].Cert = false, api.Cert{}
				row[i].Ceased = random.Intn(9) == 0
				s.Set(i, row[i])
			}
			like(t, "taken", s, row)
		}
	}
	for _, err := range []api.Errno{ok, errForm, errSide, errCease, errTime, errQuality, errMoney, errQuorum} {
		if told[err] < 5 {
			t.Errorf("the plays told %v %d times", err, told[err])
		}
	}
}

// P14.1: what CertMessage tells is what is signed, not a transaction's name or another's
// message.
func TestSignedMessage(t *testing.T) {
	x := good()
	c := x.cert(t)
	id, _ := tx.ID(api.Tx{Kind: api.Certify, Cert: c})
	for _, m := range []api.Hash{id, {}, x.c.End, x.c.Root} {
		c.Sigs[0].Sig, _ = certifiers[0].Sign(0, m)
		x.ask(t, "another message", c, errQuorum)
	}
}
