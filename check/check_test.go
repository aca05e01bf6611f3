package check_test

import (
	"math/big"
	"slices"
	"testing"

	"drawbridge/api"
	"drawbridge/check"
	"drawbridge/keytree"
	"drawbridge/tx"
	"drawbridge/utxo"
)

// The signatures of the chapter.
var (
	_ func(*utxo.Set, api.Tx, int) (int, api.Errno)                           = check.Pay
	_ func(*utxo.Set, api.Tx, int) (fee int, err api.Errno)                   = check.Do
	_ func(*utxo.Set, api.Hash, []api.Out, int, bool) (errorOfOuts api.Errno) = check.Outs
)

// The limits as numbers.
const (
	most     = 1125899906842624
	mostIns  = 8
	mostOuts = 16
	lastAt   = 255
	times    = 8
	wait     = 2
)

// owners sign; each is known by the root of its tree.
var owners = []*keytree.Tree{
	keytree.New(api.Hash{'o', 0}),
	keytree.New(api.Hash{'o', 1}),
	keytree.New(api.Hash{'o', 2}),
}

// now is a height that nothing waits for.
const now = 100

// root is who the n-th owner is.
func root(n int) api.Hash { return owners[n%len(owners)].Root() }

// at is the n-th point.
func at(n int) api.Point {
	return api.Point{Tx: api.Hash{1, byte(n), byte(n >> 8)}, At: (n * 7) % (lastAt + 1)}
}

// coin is the n-th owner's, and waits for nothing.
func coin(n, amount int) utxo.Coin {
	return utxo.Coin{Out: api.Out{To: root(n), Amount: amount}, Height: n}
}

// base is the n-th owner's coin of a coinbase at that height.
func base(n, amount, height int) utxo.Coin {
	return utxo.Coin{Out: api.Out{To: root(n), Amount: amount}, Height: height, Base: true}
}

// setOf has these coins, each at the point of its place.
func setOf(t *testing.T, l ...utxo.Coin) *utxo.Set {
	t.Helper()
	s := utxo.New()
	for n, c := range l {
		if !s.Add(at(n), c) {
			t.Fatalf("Add of %v: false", c)
		}
	}
	return s
}

// rich is a set of n coins, of 10, 11, ...
func rich(t *testing.T, n int) *utxo.Set {
	t.Helper()
	var l []utxo.Coin
	for i := range n {
		l = append(l, coin(i, 10+i))
	}
	return setOf(t, l...)
}

// outs are of these amounts, to one after another.
func outs(amounts ...int) []api.Out {
	var l []api.Out
	for i, n := range amounts {
		l = append(l, api.Out{To: api.Hash{2, byte(i), byte(i >> 8)}, Amount: n})
	}
	return l
}

// forwards are of these amounts.
func forwards(amounts ...int) []api.Forward {
	var l []api.Forward
	for i, n := range amounts {
		l = append(l, api.Forward{Side: i % 8, Account: 100 + i, Owner: api.Hash{3, byte(i)}, Amount: n})
	}
	return l
}

// sign lets each In be signed by the owner of the place that its point tells, with the
// key at that place.
func sign(t *testing.T, x api.Tx, who ...int) api.Tx {
	t.Helper()
	x.Ins = slices.Clone(x.Ins)
	for i, n := range who {
		x.Ins[i].Key, x.Ins[i].Sig = root(n), api.Sig{}
	}
	for i, n := range who {
		signAt(t, &x, i, n, i%times)
	}
	return x
}

// signAt lets the In at i be signed by that owner with that key.
func signAt(t *testing.T, x *api.Tx, i, who, index int) {
	t.Helper()
	m, ok := tx.Message(*x, i)
	if !ok {
		t.Fatalf("no Message of %d", i)
	}
	x.Ins[i].Sig, ok = owners[who%len(owners)].Sign(index, m)
	if !ok {
		t.Fatalf("no signature of %d", i)
	}
}

// payOf spends the coins at these places, each signed by whose it is.
func payOf(t *testing.T, places []int, l []api.Out, f []api.Forward) api.Tx {
	t.Helper()
	x := api.Tx{Kind: api.Pay, Outs: l, Forwards: f}
	for _, n := range places {
		x.Ins = append(x.Ins, api.In{From: at(n)})
	}
	return sign(t, x, places...)
}

// count is 0, 1, .. to below n.
func count(n int) []int {
	l := make([]int, n)
	for i := range l {
		l[i] = i
	}
	return l
}

// want is what the chapter says that Pay answers, reckoned with numbers of any size.
func want(s *utxo.Set, x api.Tx, height int) (int, api.Errno) {
	if x.Kind != api.Pay || !tx.May(x) {
		return 0, api.ErrForm
	}
	have, gone := new(big.Int), new(big.Int)
	for i, in := range x.Ins {
		c, there := s.Get(in.From)
		m, _ := tx.Message(x, i)
		ripe := new(big.Int).Add(big.NewInt(int64(c.Height)), big.NewInt(wait))
		if !there || in.Key != c.Out.To {
			return 0, api.ErrInput
		}
		if c.Base && ripe.Cmp(big.NewInt(int64(height))) > 0 {
			return 0, api.ErrWait
		}
		if !keytree.Check(in.Key, m, in.Sig) {
			return 0, api.ErrSign
		}
		have.Add(have, big.NewInt(int64(c.Out.Amount)))
	}
	for _, o := range x.Outs {
		gone.Add(gone, big.NewInt(int64(o.Amount)))
	}
	for _, f := range x.Forwards {
		gone.Add(gone, big.NewInt(int64(f.Amount)))
	}
	limit := big.NewInt(most)
	if have.Cmp(limit) > 0 || gone.Cmp(limit) > 0 || gone.Cmp(have) > 0 {
		return 0, api.ErrMoney
	}
	return int(have.Sub(have, gone).Int64()), api.OK
}

// did does to a set what the chapter says that Do does, where Pay has no error.
func did(s *utxo.Set, x api.Tx, height int) {
	for _, in := range x.Ins {
		s.Spend(in.From)
	}
	id, _ := tx.ID(x)
	for i, o := range x.Outs {
		s.Add(api.Point{Tx: id, At: i}, utxo.Coin{Out: o, Height: height})
	}
}

// like tells whether two sets have the same, and as many steps.
func like(t *testing.T, what string, s, other *utxo.Set) {
	t.Helper()
	l := other.Points()
	if got := s.Points(); !slices.Equal(got, l) {
		t.Errorf("%s: Points %v, want %v", what, got, l)
	}
	for _, p := range l {
		c, _ := s.Get(p)
		if d, _ := other.Get(p); c != d {
			t.Errorf("%s: at %v %v, want %v", what, p, c, d)
		}
	}
	if s.Total() != other.Total() || s.Mark() != other.Mark() {
		t.Errorf("%s: Total %d, want %d; %v, want %v", what, s.Total(), other.Total(), s.Mark(), other.Mark())
	}
}

// pays holds Pay and Do against an answer, and what they do to the set.
func pays(t *testing.T, what string, s *utxo.Set, x api.Tx, height, left int, err api.Errno) {
	t.Helper()
	plain := s.Copy()
	given := x
	given.Ins, given.Outs, given.Forwards = slices.Clone(x.Ins), slices.Clone(x.Outs), slices.Clone(x.Forwards)
	for range 2 {
		if n, e := check.Pay(s, x, height); n != left || e != err {
			t.Errorf("%s: Pay %d, %v, want %d, %v", what, n, e, left, err)
		}
	}
	like(t, what+": Pay", s, plain)
	done := s.Copy()
	if n, e := check.Do(done, x, height); n != left || e != err {
		t.Errorf("%s: Do %d, %v, want %d, %v", what, n, e, left, err)
	}
	if err == api.OK {
		did(plain, x, height)
	}
	like(t, what+": Do", done, plain)
	if !slices.Equal(x.Ins, given.Ins) || !slices.Equal(x.Outs, given.Outs) || !slices.Equal(x.Forwards, given.Forwards) {
		t.Errorf("%s: the lists are changed", what)
	}
}

// fails is pays with an error.
func fails(t *testing.T, what string, s *utxo.Set, x api.Tx, height int, err api.Errno) {
	t.Helper()
	pays(t, what, s, x, height, 0, err)
}

// The limits are the numbers that are written out here.
func TestLimits(t *testing.T) {
	if api.MaxMoney != most || api.MaxIns != mostIns || api.MaxOuts != mostOuts || api.Wait != wait || keytree.Times() != times {
		t.Error("a limit is another number")
	}
}

// The chapter's examples.
func TestExamples(t *testing.T) {
	s := setOf(t, coin(0, 5))
	pays(t, "one Out of 3", s, payOf(t, count(1), outs(3), nil), now, 2, api.OK)
	fails(t, "one Out of 6", s, payOf(t, count(1), outs(6), nil), now, api.ErrMoney)
}

// R7: of a nil Set nothing is known; R1: a Set that New did not make is an empty one.
func TestNil(t *testing.T) {
	good, bad := payOf(t, count(2), outs(1), nil), api.Tx{}
	for _, height := range []int{0, 1, now} {
		for _, x := range []api.Tx{good, bad} {
			if n, err := check.Pay(nil, x, height); n != 0 || err != api.ErrArg {
				t.Errorf("Pay: %d, %v, want 0, ErrArg", n, err)
			}
			if n, err := check.Do(nil, x, height); n != 0 || err != api.ErrArg {
				t.Errorf("Do: %d, %v, want 0, ErrArg", n, err)
			}
		}
		for _, l := range [][]api.Out{nil, outs(5), outs(0)} {
			if err := check.Outs(nil, api.Hash{1}, l, height, height == 0); err != api.ErrArg {
				t.Errorf("Outs: %v, want ErrArg", err)
			}
		}
	}
	var s utxo.Set
	fails(t, "the zero Set", &s, good, now, api.ErrInput)
	fails(t, "the zero Set", &s, bad, now, api.ErrForm)
	if err := check.Outs(&s, api.Hash{1}, outs(5), 1, false); err != api.OK || s.Total() != 5 {
		t.Errorf("Outs: %v, Total %d", err, s.Total())
	}
}
