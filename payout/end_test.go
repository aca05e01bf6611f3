package payout_test

import (
	"maps"
	"math"
	"reflect"
	"slices"
	"testing"

	"drawbridge/api"
	"drawbridge/hash"
	"drawbridge/payout"
	"drawbridge/registry"
	"drawbridge/utxo"
)

// whole is a Side whose every field is told by n; what waits is of epoch n.
func whole(n int) registry.Side {
	x := registry.Side{
		Params: api.Params{Length: 4, Window: 2, Need: 1, Keys: []api.Hash{{9, byte(n)}, {8}}},
		Made:   3 + n, Balance: 1000 + n, Forwarded: 5000 + 3*n, Matured: 3000 + n, Claimed: 1000 + n,
		Ceased: n%2 == 1, At: 40 + n, Root: api.Hash{1, byte(n)}, Pending: n%3 == 1, Used: []int{n, n + 4, 60000 + n},
	}
	x.Cert = api.Cert{Side: n, Epoch: n, Quality: 70 + n, End: api.Hash{2, byte(n)}, Root: api.Hash{3, byte(n)}}
	x.Cert.Outs = outs(n+1, 2)
	x.Cert.Sigs = []api.Signed{{Key: 1, Sig: api.Sig{Index: n}}}
	return x
}

// outs are of these amounts, to one after another.
func outs(amounts ...int) []api.Out {
	var l []api.Out
	for i, n := range amounts {
		l = append(l, api.Out{To: api.Hash{4, byte(i), byte(i >> 8)}, Amount: n})
	}
	return l
}

// waiting is a Side that is made at 3, Length 4, Window 2, so that epoch 1 is due at 13;
// a certificate of that one waits, which pays these amounts. The number n tells it from
// others.
func waiting(n int, amounts ...int) registry.Side {
	x := whole(n)
	x.Made, x.Ceased, x.Pending, x.Cert.Epoch, x.Cert.Outs = 3, false, true, 1, outs(amounts...)
	return x
}

// now is when epoch 1 of waiting is due.
const now = 13

// stateOf is a state of these sidechains.
func stateOf(t *testing.T, row ...registry.Side) *registry.State {
	t.Helper()
	s := registry.New()
	for i, x := range row {
		if n, err := s.Create(api.Params{Length: 2, Window: 1, Need: 1, Keys: []api.Hash{{1}}}, 0); n != i || err != ok {
			t.Fatalf("Create: %d, %v", n, err)
		}
		if !s.Set(i, x) {
			t.Fatal("no sidechain")
		}
	}
	return s
}

// paid is a point that a certificate pays out to: the digest of 'w', the side in a byte,
// the epoch in four, the id of its last block.
func paid(side, e int, end api.Hash, at int) api.Point {
	epoch := []byte{byte(e), byte(e >> 8), byte(e >> 16), byte(e >> 24)}
	return api.Point{Tx: hash.Of('w', []byte{byte(side)}, epoch, end[:]), At: at}
}

// other is a coin that has nothing to do with a payout.
func other(n int) (api.Point, utxo.Coin) {
	return api.Point{Tx: api.Hash{200, byte(n)}, At: n}, utxo.Coin{Out: api.Out{To: api.Hash{201}, Amount: 10 + n}, Height: n, Base: n%2 == 0}
}

// rich is a set of three such coins.
func rich(t *testing.T) *utxo.Set {
	t.Helper()
	u := utxo.New()
	for n := range 3 {
		if !u.Add(other(n)) {
			t.Fatal("no coin")
		}
	}
	return u
}

// rowOf are a state's sidechains.
func rowOf(s *registry.State) []registry.Side {
	var l []registry.Side
	for i := range s.Len() {
		x, _ := s.Side(i)
		l = append(l, x)
	}
	return l
}

// coinsOf are a set's coins.
func coinsOf(u *utxo.Set) map[api.Point]utxo.Coin {
	m := map[api.Point]utxo.Coin{}
	for _, p := range u.Points() {
		m[p], _ = u.Get(p)
	}
	return m
}

// plain is x, its empty lists nil: nil and an empty list are one.
func plain(x registry.Side) registry.Side {
	if len(x.Params.Keys) == 0 {
		x.Params.Keys = nil
	}
	if len(x.Cert.Outs) == 0 {
		x.Cert.Outs = nil
	}
	if len(x.Cert.Sigs) == 0 {
		x.Cert.Sigs = nil
	}
	if len(x.Used) == 0 {
		x.Used = nil
	}
	return x
}

// like tells whether a state has these sidechains, and no others.
func like(t *testing.T, what string, s *registry.State, row []registry.Side) {
	t.Helper()
	if s.Len() != len(row) {
		t.Errorf("%s: %d sidechains, want %d", what, s.Len(), len(row))
	}
	for i, w := range row {
		if x, _ := s.Side(i); !reflect.DeepEqual(plain(x), plain(w)) {
			t.Errorf("%s: side %d is %+v, want %+v", what, i, x, w)
		}
	}
}

// holds tells whether a set has these coins, and no others, and how many steps stand.
func holds(t *testing.T, what string, u *utxo.Set, coins map[api.Point]utxo.Coin, steps int) {
	t.Helper()
	if got := coinsOf(u); !maps.Equal(got, coins) {
		t.Errorf("%s: the coins are %v, want %v", what, got, coins)
	}
	if mark := markOf(steps); u.Mark() != mark {
		t.Errorf("%s: %v steps stand, want %v", what, u.Mark(), mark)
	}
}

// markOf is the mark of a set that had so many steps.
func markOf(steps int) utxo.Undo {
	u := utxo.New()
	for n := range steps {
		u.Add(api.Point{Tx: api.Hash{byte(n), byte(n >> 8)}}, utxo.Coin{Out: api.Out{Amount: 1}})
	}
	return u.Mark()
}

// model is a state and a set as a plain row and a map.
type model struct {
	row   []registry.Side
	coins map[api.Point]utxo.Coin
	steps int
}

// modelOf is a model of what is there.
func modelOf(s *registry.State, u *utxo.Set, steps int) *model {
	return &model{row: rowOf(s), coins: coinsOf(u), steps: steps}
}

// end is what the chapter says that End does and answers.
func (m *model) end(height int) api.Errno {
	for i, x := range m.row {
		e, due := dues(x)[height]
		if !due {
			continue
		}
		if !(x.Pending && x.Cert.Epoch == e) {
			m.row[i].Ceased, m.row[i].At = true, height
			continue
		}
		sum := 0
		for at, out := range x.Cert.Outs {
			if err := m.add(paid(i, e, x.Cert.End, at), utxo.Coin{Out: out, Height: height}); err != ok {
				return err
			}
			sum += out.Amount
		}
		m.row[i].Balance -= sum
		m.row[i].Matured += sum
		m.row[i].Root = x.Cert.Root
		m.row[i].Pending = false
		m.row[i].Cert = api.Cert{}
	}
	return ok
}

// add is what check.Outs does with one coin.
func (m *model) add(p api.Point, c utxo.Coin) api.Errno {
	total := 0
	for _, x := range m.coins {
		total += x.Out.Amount
	}
	if _, there := m.coins[p]; there {
		return errInput
	}
	if c.Out.Amount < 1 || c.Out.Amount > most || total+c.Out.Amount > most || p.At > 255 {
		return errMoney
	}
	m.coins[p] = c
	m.steps++
	return ok
}

// ends lets End answer, and holds its answer and all that it left against the model's.
func ends(t *testing.T, what string, s *registry.State, u *utxo.Set, steps, height int, wanted api.Errno) {
	t.Helper()
	m := modelOf(s, u, steps)
	if err := m.end(height); err != wanted {
		t.Errorf("%s: the model says %v, want %v", what, err, wanted)
	}
	if err := payout.End(s, u, height); err != wanted {
		t.Errorf("%s: End: %v, want %v", what, err, wanted)
	}
	like(t, what, s, m.row)
	holds(t, what, u, m.coins, m.steps)
}

// The chapter's example.
func TestExample(t *testing.T) {
	s := registry.New()
	s.Create(api.Params{Length: 4, Window: 2, Need: 1, Keys: []api.Hash{{7}}}, 3)
	if err := payout.End(s, utxo.New(), 9); err != ok {
		t.Fatal(err)
	}
	if x, _ := s.Side(0); !x.Ceased || x.At != 9 {
		t.Errorf("Ceased %v at %d", x.Ceased, x.At)
	}
}

// P15.1: what waits is paid: its Outs are coins, not Base, of that height, at their
// places; money goes from Balance to Matured; Root is the certificate's; none waits. No
// other field changes.
func TestPaid(t *testing.T) {
	x := waiting(6, 30, 50, 1)
	s, u := stateOf(t, x), rich(t)
	coins := coinsOf(u)
	if err := payout.End(s, u, now); err != ok {
		t.Fatal(err)
	}
	for at, out := range outs(30, 50, 1) {
		coins[paid(0, 1, x.Cert.End, at)] = utxo.Coin{Out: out, Height: 13, Base: false}
	}
	holds(t, "paid", u, coins, 6)
	x.Balance, x.Matured = 1006-81, 3006+81
	x.Root, x.Pending, x.Cert = api.Hash{3, 6}, false, api.Cert{}
	like(t, "paid", s, []registry.Side{x})
	if x.Ceased || x.At != 46 || x.Forwarded != 5018 || x.Claimed != 1006 || len(x.Used) != 3 {
		t.Error("the test spoilt its own Side")
	}
}

// P15.1: whichever epoch and height it is; of no Outs, and of many; whatever the rest of
// the certificate is.
func TestPaidAll(t *testing.T) {
	for what, bend := range map[string]func(x *registry.Side){
		"as it is":              func(x *registry.Side) {},
		"no Outs":               func(x *registry.Side) { x.Cert.Outs = nil },
		"sixteen Outs":          func(x *registry.Side) { x.Cert.Outs = outs(slices.Repeat([]int{7}, 16)...) },
		"256 Outs":              func(x *registry.Side) { x.Cert.Outs = outs(slices.Repeat([]int{2}, 256)...) },
		"two of one To":         func(x *registry.Side) { x.Cert.Outs[1].To = x.Cert.Outs[0].To },
		"two that are one":      func(x *registry.Side) { x.Cert.Outs[1] = x.Cert.Outs[0] },
		"an Out to nobody":      func(x *registry.Side) { x.Cert.Outs[0].To = api.Hash{} },
		"all of the Balance":    func(x *registry.Side) { x.Balance = 80 },
		"more than there is":    func(x *registry.Side) { x.Balance = 79 },
		"a Balance of 0":        func(x *registry.Side) { x.Balance = 0 },
		"a Balance below 0":     func(x *registry.Side) { x.Balance = -5 },
		"nothing Matured":       func(x *registry.Side) { x.Matured = 0 },
		"Matured nearly most":   func(x *registry.Side) { x.Matured = most - 80 },
		"Matured beyond":        func(x *registry.Side) { x.Matured = most },
		"Forwarded 0":           func(x *registry.Side) { x.Forwarded = 0 },
		"Quality 0":             func(x *registry.Side) { x.Cert.Quality = 0 },
		"Quality below 0":       func(x *registry.Side) { x.Cert.Quality = -9 },
		"no Sigs":               func(x *registry.Side) { x.Cert.Sigs = nil },
		"another Side's":        func(x *registry.Side) { x.Cert.Side = 5 },
		"no Side's":             func(x *registry.Side) { x.Cert.Side = -1 },
		"a zero End":            func(x *registry.Side) { x.Cert.End = api.Hash{} },
		"a zero Root":           func(x *registry.Side) { x.Cert.Root = api.Hash{} },
		"Root as it was":        func(x *registry.Side) { x.Root = x.Cert.Root },
		"no Keys":               func(x *registry.Side) { x.Params.Keys = nil },
		"Need 0":                func(x *registry.Side) { x.Params.Need = 0 },
		"At 0":                  func(x *registry.Side) { x.At = 0 },
		"none Used":             func(x *registry.Side) { x.Used = nil },
		"an amount of the most": func(x *registry.Side) { x.Cert.Outs = outs(most - 33) },
	} {
		for _, e := range []int{0, 1, 2, 255, 256, 399, lastBlock} {
			x := waiting(4, 30, 50)
			x.Cert.Epoch = e
			bend(&x)
			ends(t, what, stateOf(t, x), rich(t), 3, 9+4*e, ok)
		}
	}
}

// P15.1: the coins are of tx.Paid of the side's own number, of that epoch, of the
// certificate's End: of no two of these are they at one point.
func TestPoints(t *testing.T) {
	seen := map[api.Point]bool{}
	for side := range mostSides {
		for _, e := range []int{0, 1, 2, 256, lastBlock} {
			for _, end := range []api.Hash{{}, {1}, {0, 0, 0, 0, 0, 0, 0, 1}} {
				var row []registry.Side
				for range side {
					row = append(row, registry.Side{})
				}
				x := waiting(3, 7)
				x.Cert.Epoch, x.Cert.End, x.Cert.Side = e, end, 0
				s, u := stateOf(t, append(row, x)...), utxo.New()
				if err := payout.End(s, u, 9+4*e); err != ok {
					t.Fatal(err)
				}
				p := paid(side, e, end, 0)
				if _, there := u.Get(p); !there || u.Len() != 1 || seen[p] {
					t.Errorf("side %d, epoch %d, end %v: %v", side, e, end, u.Points())
				}
				seen[p] = true
			}
		}
	}
}

// P15.1: where none is Due nothing is done, whatever waits, or doesn't.
func TestNotDue(t *testing.T) {
	row := []registry.Side{waiting(2, 30), waiting(4, 50), waiting(6, 70), {}, sideOf(3, 0, 2)}
	row[1].Pending = false
	row[2].Params.Window = longest + 1
	for height := -20; height < 60; height++ {
		if height >= 9 && height%4 == 1 {
			continue
		}
		s, u := stateOf(t, row...), rich(t)
		if err := payout.End(s, u, height); err != ok {
			t.Errorf("at %d: %v", height, err)
		}
		like(t, "not due", s, row)
		holds(t, "not due", u, coinsOf(rich(t)), 3)
	}
	for _, height := range far {
		s, u := stateOf(t, row...), rich(t)
		if err := payout.End(s, u, height); err != ok {
			t.Errorf("at %d: %v", height, err)
		}
		like(t, "far", s, row)
		holds(t, "far", u, coinsOf(rich(t)), 3)
	}
}

// P15.1: a certificate that waits is paid at its window's end, not ahead of it, and not a
// second time: then the side has Ceased.
func TestWindow(t *testing.T) {
	s, u := stateOf(t, waiting(2, 30)), rich(t)
	for _, c := range []struct {
		height, len     int
		pending, ceased bool
	}{{10, 3, true, false}, {11, 3, true, false}, {12, 3, true, false}, {13, 4, false, false}, {14, 4, false, false}, {16, 4, false, false}, {17, 4, false, true}, {21, 4, false, true}} {
		if err := payout.End(s, u, c.height); err != ok {
			t.Fatal(err)
		}
		if x, _ := s.Side(0); x.Pending != c.pending || x.Ceased != c.ceased || u.Len() != c.len {
			t.Errorf("at %d: Pending %v, Ceased %v, %d coins", c.height, x.Pending, x.Ceased, u.Len())
		}
	}
	if x, _ := s.Side(0); x.At != 17 {
		t.Errorf("Ceased at %d, want 17", x.At)
	}
	s, u = stateOf(t, waiting(2, 30)), rich(t)
	ends(t, "once", s, u, 3, now, ok)
	ends(t, "twice", s, u, 4, now, ok)
	if x, _ := s.Side(0); !x.Ceased || x.At != now {
		t.Error("twice: has not Ceased")
	}
}

// P15.1: where none waits, or one of another epoch, the side has Ceased at that height;
// nothing is paid, and what waits stays.
func TestCeases(t *testing.T) {
	for what, bend := range map[string]func(x *registry.Side){
		"none waits":              func(x *registry.Side) { x.Pending, x.Cert = false, api.Cert{} },
		"a Cert that isn't there": func(x *registry.Side) { x.Pending = false },
		"of the epoch ahead":      func(x *registry.Side) { x.Cert.Epoch = 0 },
		"of the epoch behind":     func(x *registry.Side) { x.Cert.Epoch = 2 },
		"of epoch -1":             func(x *registry.Side) { x.Cert.Epoch = -1 },
		"of epoch 257":            func(x *registry.Side) { x.Cert.Epoch = 257 },
		"of an epoch far away":    func(x *registry.Side) { x.Cert.Epoch = 1<<32 + 1 },
		"of none, no Outs":        func(x *registry.Side) { x.Cert.Epoch, x.Cert.Outs = 0, nil },
		"no money":                func(x *registry.Side) { x.Pending, x.Balance, x.Forwarded = false, 0, 0 },
		"At is set":               func(x *registry.Side) { x.Pending, x.At = false, 99 },
	} {
		x := waiting(2, 30, 50)
		bend(&x)
		s, u := stateOf(t, x), rich(t)
		if err := payout.End(s, u, now); err != ok {
			t.Errorf("%s: %v", what, err)
		}
		x.Ceased, x.At = true, 13
		like(t, what, s, []registry.Side{x})
		holds(t, what, u, coinsOf(rich(t)), 3)
	}
}

// P15.1: the zero Cert of a side for which none waits is none of epoch 0.
func TestEpochZero(t *testing.T) {
	x := waiting(2, 30)
	x.Pending, x.Cert = false, api.Cert{}
	s, u := stateOf(t, x), rich(t)
	ends(t, "epoch 0, none", s, u, 3, 9, ok)
	if y, _ := s.Side(0); !y.Ceased || y.At != 9 || y.Root != x.Root {
		t.Errorf("%+v", y)
	}
}

// P15.1: what has Ceased stays what it is, though something waits.
func TestCeased(t *testing.T) {
	x := waiting(2, 30)
	x.Ceased, x.At = true, 9
	y := waiting(4, 50)
	y.Ceased, y.At, y.Pending = true, 11, false
	s, u := stateOf(t, x, y), rich(t)
	for height := range 60 {
		if err := payout.End(s, u, height); err != ok {
			t.Fatal(err)
		}
		like(t, "ceased", s, []registry.Side{x, y})
		holds(t, "ceased", u, coinsOf(rich(t)), 3)
	}
}

// P15.1, Ways: at each height every side is asked, each for itself.
func TestEvery(t *testing.T) {
	late, ahead, gone := waiting(3, 40), waiting(4, 50), waiting(5, 60)
	late.Made = 4
	ahead.Cert.Epoch = 0
	gone.Ceased = true
	none := waiting(6, 70)
	none.Pending = false
	s, u := stateOf(t, late, waiting(1, 20, 21), ahead, waiting(2, 30), gone, none, registry.Side{}, waiting(7, 80)), rich(t)
	ends(t, "every", s, u, 3, now, ok)
	for i, ceased := range []bool{false, false, true, false, true, true, false, false} {
		if x, _ := s.Side(i); x.Ceased != ceased {
			t.Errorf("side %d: Ceased %v", i, x.Ceased)
		}
	}
	if u.Len() != 7 || u.Total() != 33+20+21+30+80 {
		t.Errorf("%d coins of %d", u.Len(), u.Total())
	}
	ends(t, "the late one", s, u, 7, now+1, ok)
	if u.Len() != 8 || u.Total() != 33+20+21+30+80+40 {
		t.Errorf("%d coins of %d", u.Len(), u.Total())
	}
}

// P15.1: the sides come in order, and the Outs of each: their steps are undone so.
func TestOrder(t *testing.T) {
	row := []registry.Side{waiting(1, 10, 11), waiting(2, 20), waiting(3), waiting(4, 30, 31, 32), waiting(5, 40)}
	s, u := stateOf(t, row...), rich(t)
	if err := payout.End(s, u, now); err != ok {
		t.Fatal(err)
	}
	coins := coinsOf(rich(t))
	var points []api.Point
	for i, x := range row {
		for at, out := range x.Cert.Outs {
			p := paid(i, 1, x.Cert.End, at)
			points = append(points, p)
			coins[p] = utxo.Coin{Out: out, Height: now}
		}
	}
	for k, p := range slices.Backward(points) {
		holds(t, "order", u, coins, 3+k+1)
		if !u.Back(markOf(3 + k)) {
			t.Fatal("no such mark")
		}
		delete(coins, p)
	}
	holds(t, "all undone", u, coinsOf(rich(t)), 3)
}

// P15.1: ErrInput where a coin stands where an Out would be. What was done stays: the
// sides ahead are paid, or have Ceased, the coins ahead are there; the side that failed
// and those behind it are as they were.
func TestThere(t *testing.T) {
	for failing := range 5 {
		for place := range 3 {
			row := []registry.Side{waiting(1, 10, 11, 12), waiting(2, 20, 21, 22), waiting(3, 30, 31, 32), waiting(4, 40, 41, 42), waiting(5, 50, 51, 52)}
			row[1].Pending = false
			s, u := stateOf(t, row...), rich(t)
			p := paid(failing, 1, row[failing].Cert.End, place)
			u.Add(p, utxo.Coin{Out: api.Out{To: api.Hash{9}, Amount: 5}, Height: 2, Base: true})
			wanted := errInput
			if failing == 1 {
				wanted = ok
			}
			before := u.Len()
			ends(t, "there", s, u, 4, now, wanted)
			if failing == 1 {
				continue
			}
			if c, _ := u.Get(p); c.Out.Amount != 5 || u.Len() != before+3*min(failing, 1)+3*max(failing-2, 0)+place {
				t.Errorf("side %d fails at %d: %d coins", failing, place, u.Len())
			}
			if x, _ := s.Side(failing); !reflect.DeepEqual(plain(x), plain(row[failing])) {
				t.Errorf("side %d fails at %d: it is %+v", failing, place, x)
			}
			if x, _ := s.Side(1); x.Ceased != (failing > 1) {
				t.Errorf("side %d fails: side 1 has Ceased: %v", failing, x.Ceased)
			}
		}
	}
}

// P15.1: ErrMoney where a coin can't be: of an amount that may not be, at a place above
// 255. What was done stays, as it does with ErrInput.
func TestMoney(t *testing.T) {
	for _, n := range []int{0, -1, -30, -most, math.MinInt, math.MinInt + most, most + 1, 2 * most, math.MaxInt - most, math.MaxInt} {
		for place := range 3 {
			amounts := slices.Insert([]int{4, 6}, place, n)
			ends(t, "money", stateOf(t, waiting(1, 10), waiting(2, amounts...), waiting(3, 30)), rich(t), 3, now, errMoney)
		}
	}
	ends(t, "257 Outs", stateOf(t, waiting(1, slices.Repeat([]int{1}, 257)...)), rich(t), 3, now, errMoney)
	ends(t, "1000 Outs", stateOf(t, waiting(1, slices.Repeat([]int{1}, 1000)...), waiting(2, 3)), rich(t), 3, now, errMoney)
}

// P15.1: all coins may be MaxMoney, and not one more.
func TestMost(t *testing.T) {
	for _, c := range []struct {
		amounts []int
		wanted  api.Errno
	}{
		{[]int{most - 33}, ok}, {[]int{most - 32}, errMoney}, {[]int{1, most - 34}, ok}, {[]int{most - 34, 1}, ok},
		{[]int{most - 34, 2}, errMoney}, {[]int{most - 33, 1}, errMoney}, {[]int{most - 34, 1, 1}, errMoney},
	} {
		x := waiting(2, c.amounts...)
		x.Balance, x.Forwarded = most, most
		ends(t, "most", stateOf(t, x), rich(t), 3, now, c.wanted)
		ends(t, "most, behind another", stateOf(t, registry.Side{}, x, waiting(4)), rich(t), 3, now, c.wanted)
	}
	full := waiting(2, most)
	full.Balance, full.Forwarded, full.Matured = most, most, 0
	ends(t, "all there is", stateOf(t, full), utxo.New(), 0, now, ok)
	ends(t, "all there is, twice", stateOf(t, full, full), utxo.New(), 0, now, errMoney)
}

// P15.1, R6: the first Out that fails tells the error.
func TestFirstError(t *testing.T) {
	for place, wanted := range []api.Errno{errInput, errMoney} {
		x := waiting(2, 5, 5, 5)
		x.Cert.Outs[1-place].Amount = 0
		s, u := stateOf(t, x), rich(t)
		u.Add(paid(0, 1, x.Cert.End, place), utxo.Coin{Out: api.Out{Amount: 1}})
		ends(t, "first error", s, u, 4, now, wanted)
	}
	x := waiting(2, 5)
	x.Cert.Outs[0].Amount = -1
	s, u := stateOf(t, x), rich(t)
	u.Add(paid(0, 1, x.Cert.End, 0), utxo.Coin{Out: api.Out{Amount: 1}})
	ends(t, "both at one place", s, u, 4, now, errInput)
}

// P15.1: an error is no one's end: undone and freed, the same End does all.
func TestAgain(t *testing.T) {
	row := []registry.Side{waiting(1, 10), waiting(2, 20, 21)}
	s, u := stateOf(t, row...), rich(t)
	before, mark := s.Copy(), u.Mark()
	p := paid(1, 1, row[1].Cert.End, 1)
	u.Add(p, utxo.Coin{Out: api.Out{Amount: 1}})
	ends(t, "fails", s, u, 4, now, errInput)
	if !u.Back(mark) {
		t.Fatal("no such mark")
	}
	like(t, "the copy", before, row)
	ends(t, "again", before, u, 3, now, ok)
	if u.Len() != 6 {
		t.Errorf("%d coins", u.Len())
	}
}

// R7, R3: a nil object is ErrArg, whatever is due, and the other one stays what it is.
func TestNil(t *testing.T) {
	for _, height := range append([]int{0, 1, 9, now, 17}, far...) {
		row := []registry.Side{waiting(1), waiting(2, 20), waiting(3)}
		row[2].Pending = false
		s, u := stateOf(t, row...), rich(t)
		if payout.End(nil, u, height) != errArg || payout.End(s, nil, height) != errArg || payout.End(nil, nil, height) != errArg || payout.End(registry.New(), nil, height) != errArg {
			t.Errorf("at %d: no ErrArg", height)
		}
		like(t, "nil", s, row)
		holds(t, "nil", u, coinsOf(rich(t)), 3)
	}
}

// P15.1, R1: where there are no sides nothing is done; a zero State and a zero Set are
// such as have nothing.
func TestEmpty(t *testing.T) {
	for what, s := range map[string]*registry.State{"new": registry.New(), "zero": {}} {
		for _, height := range append([]int{0, 9, now}, far...) {
			u := rich(t)
			if err := payout.End(s, u, height); err != ok {
				t.Errorf("%s at %d: %v", what, height, err)
			}
			like(t, what, s, nil)
			holds(t, what, u, coinsOf(rich(t)), 3)
		}
	}
	ends(t, "a zero set", stateOf(t, waiting(2, 5, 6)), &utxo.Set{}, 0, now, ok)
}

// R4: no list is shared: what is paid of one Copy is paid of it alone, and a Side that was
// answered ahead stays.
func TestCopies(t *testing.T) {
	row := []registry.Side{waiting(1, 10, 11), waiting(2, 20)}
	s, u := stateOf(t, row...), rich(t)
	twin, others := s.Copy(), u.Copy()
	early := rowOf(s)
	ends(t, "the one", s, u, 3, now, ok)
	like(t, "the other", twin, row)
	holds(t, "the other", others, coinsOf(rich(t)), 3)
	for i, x := range early {
		if !reflect.DeepEqual(plain(x), plain(row[i])) {
			t.Errorf("side %d, answered ahead: %+v", i, x)
		}
	}
	left, coins := rowOf(s), coinsOf(u)
	for i := range twin.Len() {
		x, _ := twin.Side(i)
		clear(x.Cert.Outs)
		clear(x.Used)
		twin.Set(i, registry.Side{})
	}
	like(t, "the one, still", s, left)
	holds(t, "the one, still", u, coins, 6)
}

// R1, R6: a Balance and what Matured may be any number.
func TestAnyNumbers(t *testing.T) {
	for _, balance := range far {
		for _, was := range far {
			x := waiting(2, 30, 50)
			x.Balance, x.Matured = balance, was
			s := stateOf(t, x)
			if err := payout.End(s, rich(t), now); err != ok {
				t.Errorf("Balance %d, Matured %d: %v", balance, was, err)
			}
			y, _ := s.Side(0)
			if balance >= math.MinInt+80 && y.Balance != balance-80 || was <= math.MaxInt-80 && y.Matured != was+80 {
				t.Errorf("Balance %d, Matured %d: %d, %d", balance, was, y.Balance, y.Matured)
			}
		}
	}
}
