package check_test

import (
	"math"
	"math/rand"
	"testing"

	"drawbridge/api"
	"drawbridge/check"
	"drawbridge/tx"
	"drawbridge/utxo"
)

// far are heights at the ends, and others.
var far = []int{0, 1, -1, 2, 100, 400, 401, 1 << 32, -1 << 32, math.MaxInt, math.MaxInt - 1, math.MinInt, math.MinInt + 1}

// has tells whether a coin stands at a point.
func has(t *testing.T, what string, s *utxo.Set, p api.Point, want utxo.Coin) {
	t.Helper()
	if c, ok := s.Get(p); !ok || c != want {
		t.Errorf("%s: at %v %v, %v, want %v", what, p, c, ok, want)
	}
}

// lacks tells whether none does.
func lacks(t *testing.T, what string, s *utxo.Set, p api.Point) {
	t.Helper()
	if c, ok := s.Get(p); ok {
		t.Errorf("%s: at %v %v, want none", what, p, c)
	}
}

// steps tells how many steps stand.
func steps(t *testing.T, what string, s *utxo.Set, want int) {
	t.Helper()
	other := utxo.New()
	for n := range want {
		other.Add(at(n), coin(n, 1))
	}
	if s.Mark() != other.Mark() {
		t.Errorf("%s: %v steps stand, want %v", what, s.Mark(), other.Mark())
	}
}

// P12.2: each In is spent, each Out is there, of the transaction's ID at its place; what
// is forwarded, and the fee, are coins no more.
func TestDo(t *testing.T) {
	for n := 1; n <= mostIns; n++ {
		for _, paid := range []int{0, 1, 2, 3, mostOuts} {
			s := rich(t, n+2)
			whole := s.Total()
			x := payOf(t, count(n), outs(filled(paid, 1)...), forwards(1, 2))
			sum := 0
			for i := range n {
				sum += 10 + i
			}
			left, err := check.Do(s, x, now)
			if paid+3 > sum {
				if left != 0 || err != api.ErrMoney {
					t.Errorf("%d of %d: Do %d, %v", paid, sum, left, err)
				}
				continue
			}
			if left != sum-paid-3 || err != api.OK {
				t.Errorf("%d Ins, %d Outs: Do %d, %v", n, paid, left, err)
			}
			id, _ := tx.ID(x)
			for i := range n {
				lacks(t, "spent", s, at(i))
			}
			for i := range paid {
				has(t, "an Out", s, api.Point{Tx: id, At: i}, utxo.Coin{Out: api.Out{To: api.Hash{2, byte(i)}, Amount: 1}, Height: now})
			}
			has(t, "not spent", s, at(n), coin(n, 10+n))
			has(t, "not spent", s, at(n+1), coin(n+1, 11+n))
			if s.Len() != paid+2 || s.Total() != whole-left-3 {
				t.Errorf("%d Ins, %d Outs: Len %d, Total %d", n, paid, s.Len(), s.Total())
			}
			steps(t, "done", s, n+2+n+paid)
		}
	}
}

// P12.2: the coins have the height that was told, whatever it is, and wait for nothing.
func TestDoHeight(t *testing.T) {
	for _, height := range far {
		s, x := rich(t, 1), payOf(t, count(1), []api.Out{{To: root(1), Amount: 7}}, nil)
		if left, err := check.Do(s, x, height); left != 3 || err != api.OK {
			t.Errorf("at %d: Do %d, %v", height, left, err)
		}
		id, _ := tx.ID(x)
		from := api.Point{Tx: id}
		has(t, "an Out", s, from, utxo.Coin{Out: api.Out{To: root(1), Amount: 7}, Height: height})
		next := sign(t, api.Tx{Kind: api.Pay, Ins: []api.In{{From: from}}, Outs: outs(6)}, 1)
		pays(t, "spent at once", s, next, height, 1, api.OK)
		pays(t, "spent ahead", s, next, math.MinInt, 1, api.OK)
	}
}

// P12.2: what Pay refuses is not done, nor any part of it: pays tells of each error that
// nothing is changed; here of all of them in one Set.
func TestDoRefused(t *testing.T) {
	s := setOf(t, coin(0, 10), coin(1, 20), base(2, 30, now))
	plain := s.Copy()
	bent := payOf(t, []int{0, 1}, outs(3), nil)
	bent.Ins[1].Sig.Shut[0][0] ^= 1
	for _, c := range []struct {
		x   api.Tx
		err api.Errno
	}{
		{api.Tx{}, api.ErrForm},
		{payOf(t, []int{0, 1, 3}, outs(3), nil), api.ErrInput},
		{payOf(t, []int{0, 1, 2}, outs(3), nil), api.ErrWait},
		{bent, api.ErrSign},
		{payOf(t, []int{0, 1}, outs(31), nil), api.ErrMoney},
		{payOf(t, []int{0, 1}, outs(30), forwards(1)), api.ErrMoney},
	} {
		if left, err := check.Do(s, c.x, now); left != 0 || err != c.err {
			t.Errorf("Do: %d, %v, want 0, %v", left, err, c.err)
		}
		like(t, "refused", s, plain)
	}
	if left, err := check.Do(s, payOf(t, []int{0, 1}, outs(30), nil), now); left != 0 || err != api.OK {
		t.Errorf("Do: %d, %v, want 0, OK", left, err)
	}
}

// P12.2: where a coin stands where an Out would be, that is the error; what was done ahead
// of it stays: all Ins are spent, the Outs ahead are there.
func TestDoThere(t *testing.T) {
	for n := 1; n <= 3; n++ {
		for k := range 4 {
			x := payOf(t, count(n), outs(1, 2, 3, 4), nil)
			id, _ := tx.ID(x)
			s := rich(t, n)
			there := coin(9, 77)
			s.Add(api.Point{Tx: id, At: k}, there)
			u, plain := s.Mark(), s.Copy()
			if left, err := check.Pay(s, x, now); left != s.Total()-77-10 || err != api.OK {
				t.Errorf("Pay: %d, %v", left, err)
			}
			if left, err := check.Do(s, x, now); left != 0 || err != api.ErrInput {
				t.Errorf("an Out at %d is there: Do %d, %v, want 0, ErrInput", k, left, err)
			}
			for i := range n {
				lacks(t, "spent", s, at(i))
			}
			for i, o := range x.Outs {
				p := api.Point{Tx: id, At: i}
				switch {
				case i < k:
					has(t, "ahead", s, p, utxo.Coin{Out: o, Height: now})
				case i == k:
					has(t, "there", s, p, there)
				default:
					lacks(t, "behind", s, p)
				}
			}
			steps(t, "failed", s, n+1+n+k)
			if !s.Back(u) {
				t.Error("Back: false")
			}
			like(t, "back", s, plain)
		}
	}
}

// P12.2: a coin at a place that no Out has is in nobody's way, and stays.
func TestDoBeside(t *testing.T) {
	x := payOf(t, count(1), outs(1, 2), nil)
	id, _ := tx.ID(x)
	s := rich(t, 1)
	for _, place := range []int{2, 3, lastAt} {
		s.Add(api.Point{Tx: id, At: place}, coin(9, 77))
	}
	pays(t, "beside", s, x, now, 7, api.OK)
}

// P12.2: all money that may be goes through one payment.
func TestDoMost(t *testing.T) {
	s := setOf(t, coin(0, most-8), coin(1, 8))
	pays(t, "all of it", s, payOf(t, count(2), outs(most), nil), now, 0, api.OK)
	pays(t, "all of it, in two", s, payOf(t, count(2), outs(most-1, 1), nil), now, 0, api.OK)
	pays(t, "a part", s, payOf(t, []int{0}, outs(most-8), nil), now, 0, api.OK)
	fails(t, "more than the part", s, payOf(t, []int{0}, outs(most-7), nil), now, api.ErrMoney)
}

// P12.2: each of a list is added at its place, with all that is told of it.
func TestOuts(t *testing.T) {
	for _, height := range far {
		for _, base := range []bool{false, true} {
			s, other := rich(t, 2), rich(t, 2)
			l := outs(5, 1, 9, 1<<40)
			l[2].To = api.Hash{}
			if err := check.Outs(s, api.Hash{4, 7: 9}, l, height, base); err != api.OK {
				t.Errorf("Outs: %v", err)
			}
			for i, o := range l {
				other.Add(api.Point{Tx: api.Hash{4, 7: 9}, At: i}, utxo.Coin{Out: o, Height: height, Base: base})
			}
			like(t, "Outs", s, other)
			if s.Len() != 6 {
				t.Errorf("Len %d, want 6", s.Len())
			}
		}
	}
}

// P12.2: of an empty list nothing is done.
func TestOutsNone(t *testing.T) {
	for _, l := range [][]api.Out{nil, {}, outs(5)[:0]} {
		s := rich(t, 2)
		if err := check.Outs(s, at(0).Tx, l, 5, true); err != api.OK {
			t.Errorf("Outs of none: %v", err)
		}
		like(t, "none", s, rich(t, 2))
	}
}

// P12.2: an Out that is there already, and one that is refused: what is ahead of it stays,
// what is behind it is not looked at.
func TestOutsFail(t *testing.T) {
	id := api.Hash{8}
	for k := range 5 {
		for what, c := range map[string]struct {
			there  bool
			amount int
			err    api.Errno
		}{
			"there":                   {true, 5, api.ErrInput},
			"there, of 0":             {true, 0, api.ErrInput},
			"there, of -1":            {true, -1, api.ErrInput},
			"there, beyond the Total": {true, most, api.ErrInput},
			"there, far beyond":       {true, math.MaxInt, api.ErrInput},
			"of 0":                    {false, 0, api.ErrMoney},
			"of -1":                   {false, -1, api.ErrMoney},
			"of the least":            {false, math.MinInt, api.ErrMoney},
			"beyond the Total":        {false, most, api.ErrMoney},
			"one beyond MaxMoney":     {false, most + 1, api.ErrMoney},
			"far beyond":              {false, math.MaxInt, api.ErrMoney},
		} {
			for _, behind := range []int{1, 0, most} {
				l := outs(11, 12, 13, 14, 15)
				l[k].Amount = c.amount
				for i := k + 1; i < len(l); i++ {
					l[i].Amount = behind
				}
				s := setOf(t, coin(0, 3))
				if c.there {
					s.Add(api.Point{Tx: id, At: k}, coin(1, 4))
				}
				if k+1 < len(l) {
					s.Add(api.Point{Tx: id, At: k + 1}, coin(2, 5))
				}
				other := s.Copy()
				for i := range k {
					other.Add(api.Point{Tx: id, At: i}, utxo.Coin{Out: l[i], Height: 9, Base: true})
				}
				if err := check.Outs(s, id, l, 9, true); err != c.err {
					t.Errorf("%s: Outs %v, want %v", what, err, c.err)
				}
				like(t, what, s, other)
			}
		}
	}
}

// P12.2: the Total may be all money, and not one more.
func TestOutsTotal(t *testing.T) {
	s := setOf(t, coin(0, most-6))
	if err := check.Outs(s, api.Hash{5}, outs(1, 2, 3), 1, false); err != api.OK || s.Total() != most {
		t.Errorf("up to MaxMoney: %v, Total %d", err, s.Total())
	}
	s = setOf(t, coin(0, most-6))
	if err := check.Outs(s, api.Hash{5}, outs(1, 2, 4, 1), 1, false); err != api.ErrMoney || s.Total() != most-3 {
		t.Errorf("one beyond MaxMoney: %v, Total %d", err, s.Total())
	}
}

// P12.2: places go up to 255: the next one is refused, what is ahead stays.
func TestOutsPlaces(t *testing.T) {
	for _, n := range []int{255, 256, 257, 300} {
		s := utxo.New()
		want := api.OK
		if n > lastAt+1 {
			want = api.ErrMoney
		}
		if err := check.Outs(s, api.Hash{6}, outs(filled(n, 2)...), 1, false); err != want {
			t.Errorf("%d Outs: %v, want %v", n, err, want)
		}
		for i := range min(n, lastAt+1) {
			has(t, "a place", s, api.Point{Tx: api.Hash{6}, At: i}, utxo.Coin{Out: api.Out{To: api.Hash{2, byte(i)}, Amount: 2}, Height: 1})
		}
		if s.Len() != min(n, lastAt+1) {
			t.Errorf("%d Outs: Len %d", n, s.Len())
		}
	}
}

// R4: a list is neither changed nor kept.
func TestOutsList(t *testing.T) {
	s := utxo.New()
	room := outs(5, 6, 7)
	l := room[:2]
	if err := check.Outs(s, api.Hash{7}, l, 1, false); err != api.OK || room[2] != outs(5, 6, 7)[2] {
		t.Errorf("Outs: %v, its spare room %v", err, room[2])
	}
	l[0] = api.Out{To: api.Hash{99}, Amount: 99}
	has(t, "kept", s, api.Point{Tx: api.Hash{7}}, utxo.Coin{Out: outs(5)[0], Height: 1})
}

// P12.1, P12.2: long plays of coinbases and payments, each spending what the last ones
// paid; a fee is what the Total loses beside what is forwarded.
func TestPlays(t *testing.T) {
	for seed := range 6 {
		r := rand.New(rand.NewSource(int64(seed)))
		s, whose := utxo.New(), map[api.Hash]int{root(0): 0, root(1): 1, root(2): 2}
		done := 0
		for height := 1; height <= 40; height++ {
			mined := []api.Out{{To: root(height), Amount: 500}, {To: root(height + 1), Amount: 4500}}
			if err := check.Outs(s, api.Hash{'b', byte(height)}, mined, height, true); err != api.OK {
				t.Fatalf("a coinbase: %v", err)
			}
			for range 3 {
				x, who := playPay(r, s, whose)
				x = sign(t, x, who...)
				left, err := want(s, x, height)
				pays(t, "play", s, x, height, left, err)
				ahead := s.Total()
				if _, err = check.Do(s, x, height); err == api.OK {
					done++
					if s.Total() != ahead-left-x.Forwards[0].Amount {
						t.Errorf("play: Total %d of %d, fee %d", s.Total(), ahead, left)
					}
				}
			}
		}
		if done < 30 {
			t.Errorf("play %d: %d payments", seed, done)
		}
	}
}

// playPay spends one to three of what is there, to the owners, in parts of what they have;
// it answers who must sign.
func playPay(r *rand.Rand, s *utxo.Set, whose map[api.Hash]int) (api.Tx, []int) {
	l := s.Points()
	r.Shuffle(len(l), func(i, k int) { l[i], l[k] = l[k], l[i] })
	x := api.Tx{Kind: api.Pay, Forwards: forwards(1 + r.Intn(3))}
	var who []int
	sum := 0
	for _, p := range l[:min(len(l), 1+r.Intn(3))] {
		c, _ := s.Get(p)
		x.Ins = append(x.Ins, api.In{From: p})
		who = append(who, whose[c.Out.To])
		sum += c.Out.Amount
	}
	for i := range 1 + r.Intn(3) {
		x.Outs = append(x.Outs, api.Out{To: root(r.Intn(3)), Amount: max(1, sum/(i+2)-2)})
	}
	return x, who
}
