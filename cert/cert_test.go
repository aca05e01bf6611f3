package cert_test

import (
	"math"
	"math/big"
	"reflect"
	"slices"
	"testing"

	"drawbridge/api"
	"drawbridge/cert"
	"drawbridge/keytree"
	"drawbridge/quorum"
	"drawbridge/registry"
	"drawbridge/tx"
)

// The signatures of the chapter.
var (
	_ func(s *registry.State, c api.Cert, height int, end api.Hash) api.Errno = cert.Check
	_ func(s *registry.State, c api.Cert, height int, end api.Hash) api.Errno = cert.Take
	_ func(c api.Cert) (int, bool)                                            = cert.Sum
)

// The limits and the errors as numbers.
const (
	most        = 1125899906842624
	mostOuts    = 16
	mostKeys    = 5
	mostSides   = 8
	mostQuality = 2147483647
	lastBlock   = 400
	longest     = 64
	times       = 8

	ok         = api.Errno(0)
	errArg     = api.Errno(1)
	errForm    = api.Errno(4)
	errMoney   = api.Errno(5)
	errSide    = api.Errno(8)
	errTime    = api.Errno(9)
	errQuality = api.Errno(10)
	errQuorum  = api.Errno(11)
	errCease   = api.Errno(14)
)

// far are numbers that a sum wraps round with, or nearly, and such as have the lowest
// bytes of small ones.
var far = []int{math.MinInt, math.MinInt + 1, -1 << 62, -1 << 32, -256, -1, 1<<32 + 8, 1<<32 + 9, 1 << 62, math.MaxInt - 1, math.MaxInt}

// certifiers sign; each is known by the root of its tree.
var certifiers = makeCertifiers()

func makeCertifiers() []*keytree.Tree {
	var l []*keytree.Tree
	for i := range 2 * mostKeys {
		l = append(l, keytree.New(api.Hash{'c', byte(i)}))
	}
	return l
}

// keys are the roots of n certifiers, from that one on.
func keys(from, n int) []api.Hash {
	var l []api.Hash
	for _, tree := range certifiers[from : from+n] {
		l = append(l, tree.Root())
	}
	return l
}

// outs are of these amounts, to one after another.
func outs(amounts ...int) []api.Out {
	var l []api.Out
	for i, n := range amounts {
		l = append(l, api.Out{To: api.Hash{2, byte(i), byte(i >> 8)}, Amount: n})
	}
	return l
}

// place is the number of the sidechain that is asked, sides how many there are.
const place, sides = 2, 4

// scene is a sidechain, and a certificate that comes for it.
type scene struct {
	side   registry.Side
	c      api.Cert
	who    []int // of the sidechain's certifiers sign, in this order
	height int
	end    api.Hash
}

// good is a scene whose certificate is taken: epoch 1 has the heights 8 to 11, its window
// is 12 and 13.
func good() scene {
	end := api.Hash{11, 1}
	return scene{
		side: registry.Side{
			Params: api.Params{Length: 4, Window: 2, Need: 2, Keys: keys(0, 3)},
			Made:   3, Balance: 100, Forwarded: 180, Matured: 80, At: 0, Root: api.Hash{6},
		},
		c:      api.Cert{Side: place, Epoch: 1, Quality: 7, End: end, Root: api.Hash{5, 5}, Outs: outs(30, 50)},
		who:    []int{0, 2},
		height: 12,
		end:    end,
	}
}

// waiting lets another certificate wait there, of that quality.
func (x scene) waiting(quality int) scene {
	x.side.Pending = true
	x.side.Cert = api.Cert{Side: place, Epoch: 1, Quality: quality, End: x.end, Root: api.Hash{4, 4}, Outs: outs(99, 1), Sigs: []api.Signed{{Key: 1, Sig: api.Sig{Index: 3}}}}
	return x
}

// sign is c with signatures of the sidechain's certifiers, the first of them those from
// that one on.
func sign(t *testing.T, c api.Cert, first int, who ...int) api.Cert {
	t.Helper()
	m, may := tx.CertMessage(c)
	if !may {
		t.Fatalf("no CertMessage of %+v", c)
	}
	c.Sigs = nil
	for i, k := range who {
		s, _ := certifiers[first+k].Sign((k+i)%times, m)
		c.Sigs = append(c.Sigs, api.Signed{Key: k, Sig: s})
	}
	return c
}

// cert is the scene's certificate, signed.
func (x scene) cert(t *testing.T) api.Cert {
	t.Helper()
	return sign(t, x.c, 0, x.who...)
}

// state is one of four sidechains, the scene's at its place.
func (x scene) state(t *testing.T) *registry.State {
	t.Helper()
	s := registry.New()
	for i := range sides {
		p := api.Params{Length: 4 + i, Window: 1, Need: 1, Keys: keys(5+i, 2)}
		if n, err := s.Create(p, i); n != i || err != ok {
			t.Fatalf("Create: %d, %v", n, err)
		}
	}
	if !s.Set(place, x.side) {
		t.Fatal("no sidechain")
	}
	return s
}

// ask lets Check and Take answer, and holds both against what is wanted, and the state
// behind them against what it was, or what it is to be.
func (x scene) ask(t *testing.T, what string, c api.Cert, wanted api.Errno) {
	t.Helper()
	s := x.state(t)
	if got := want(s, c, x.height, x.end); got != wanted {
		t.Errorf("%s: the model says %v, want %v", what, got, wanted)
	}
	row := rowOf(s)
	if err := cert.Check(s, c, x.height, x.end); err != wanted {
		t.Errorf("%s: Check: %v, want %v", what, err, wanted)
	}
	like(t, what+", checked", s, row)
	if err := cert.Take(s, c, x.height, x.end); err != wanted {
		t.Errorf("%s: Take: %v, want %v", what, err, wanted)
	}
	if wanted == ok {
		row[c.Side].Pending, row[c.Side].Cert = true, c
	}
	like(t, what+", taken", s, row)
}

// is asks the scene's certificate, signed.
func (x scene) is(t *testing.T, what string, wanted api.Errno) {
	t.Helper()
	x.ask(t, what, x.cert(t), wanted)
}

// rowOf are a state's sidechains.
func rowOf(s *registry.State) []registry.Side {
	var l []registry.Side
	for i := range s.Len() {
		x, _ := s.Side(i)
		l = append(l, x)
	}
	return l
}

// plain is x, its empty lists nil: nil and an empty list are one.
func plain(x registry.Side) registry.Side {
	if len(x.Params.Keys) == 0 {
		x.Params.Keys = nil
	}
	if len(x.Cert.Outs) == 0 {
		x.Cert.Outs = nil
	}
	if len(x.Cert.Sigs) == 0 {
		x.Cert.Sigs = nil
	}
	if len(x.Used) == 0 {
		x.Used = nil
	}
	return x
}

// like tells whether a state has these sidechains, and no others.
func like(t *testing.T, what string, s *registry.State, row []registry.Side) {
	t.Helper()
	if s.Len() != len(row) {
		t.Errorf("%s: %d sidechains, want %d", what, s.Len(), len(row))
	}
	for i, w := range row {
		if x, _ := s.Side(i); !reflect.DeepEqual(plain(x), plain(w)) {
			t.Errorf("%s: side %d is %+v, want %+v", what, i, x, w)
		}
	}
}

// want is what the chapter says that Check answers, reckoned with numbers of any size.
func want(s *registry.State, c api.Cert, height int, end api.Hash) api.Errno {
	if !tx.May(api.Tx{Kind: 4, Cert: c}) {
		return errForm
	}
	x, there := s.Side(c.Side)
	switch {
	case !there:
		return errSide
	case x.Ceased:
		return errCease
	case !open(x, c.Epoch, height):
		return errTime
	case c.End != end:
		return errTime
	case x.Pending && !(x.Cert.Quality < c.Quality):
		return errQuality
	}
	sum := new(big.Int)
	for _, o := range c.Outs {
		sum.Add(sum, big.NewInt(int64(o.Amount)))
	}
	if sum.Cmp(big.NewInt(most)) > 0 || sum.Cmp(big.NewInt(int64(x.Balance))) > 0 {
		return errMoney
	}
	if !enough(x.Params, c) {
		return errQuorum
	}
	return ok
}

// open tells whether the height is one of the blocks of the epoch's window, each counted.
func open(x registry.Side, e, height int) bool {
	p := x.Params
	if p.Length < 1 || p.Length > longest || p.Window < 0 || p.Window > longest || x.Made < 0 || x.Made > lastBlock || e < 0 || e > lastBlock {
		return false
	}
	end := x.Made
	for range e + 1 {
		end += p.Length
	}
	for k := range p.Window {
		if height == end+1+k {
			return true
		}
	}
	return false
}

// enough tells whether each signature is right, of a key above the one ahead, and whether
// they are as many as must sign.
func enough(p api.Params, c api.Cert) bool {
	m, _ := tx.CertMessage(c)
	last := -1
	for _, s := range c.Sigs {
		if s.Key <= last || s.Key >= len(p.Keys) || !keytree.Check(p.Keys[s.Key], m, s.Sig) {
			return false
		}
		last = s.Key
	}
	return quorum.May(p) && len(c.Sigs) >= p.Need
}

// The chapter's example.
func TestExample(t *testing.T) {
	x := good()
	s := x.state(t)
	for _, play := range []struct {
		quality int
		wanted  api.Errno
	}{{3, ok}, {3, errQuality}, {4, ok}} {
		x.c.Quality = play.quality
		if err := cert.Take(s, x.cert(t), x.height, x.end); err != play.wanted {
			t.Errorf("Take of quality %d: %v, want %v", play.quality, err, play.wanted)
		}
	}
}

// P14.1: what is so is taken, whichever fields it has.
func TestGood(t *testing.T) {
	good().is(t, "good", ok)
	for what, bend := range map[string]func(x *scene){
		"no Outs":           func(x *scene) { x.c.Outs = nil },
		"a zero Root":       func(x *scene) { x.c.Root = api.Hash{} },
		"a zero End":        func(x *scene) { x.c.End, x.end = api.Hash{}, api.Hash{} },
		"Quality 0":         func(x *scene) { x.c.Quality = 0 },
		"the best Quality":  func(x *scene) { x.c.Quality = mostQuality },
		"all sign":          func(x *scene) { x.who = []int{0, 1, 2} },
		"the last two sign": func(x *scene) { x.who = []int{1, 2} },
		"Root as it was":    func(x *scene) { x.c.Root = x.side.Root },
		"some were Used":    func(x *scene) { x.side.Used = []int{1, 2, 3} },
		"At is set":         func(x *scene) { x.side.At = 12 },
		"two of one To":     func(x *scene) { x.c.Outs[1].To = x.c.Outs[0].To },
		"sixteen Outs":      func(x *scene) { x.c.Outs = outs(slices.Repeat([]int{6}, mostOuts)...) },
		"five keys": func(x *scene) {
			x.side.Params.Keys, x.side.Params.Need, x.who = keys(0, mostKeys), mostKeys, []int{0, 1, 2, 3, 4}
		},
		"one key": func(x *scene) { x.side.Params.Keys, x.side.Params.Need, x.who = keys(0, 1), 1, []int{0} },
	} {
		x := good()
		bend(&x)
		x.is(t, what, ok)
	}
}

// P14.1: each of a state's sidechains takes its own.
func TestSides(t *testing.T) {
	s := registry.New()
	for i := range mostSides {
		p := api.Params{Length: 4, Window: 2, Need: 2, Keys: keys(i%4, 2)}
		s.Create(p, 3)
		s.Forward(api.Forward{Side: i, Amount: 10 * (i + 1)})
	}
	row := rowOf(s)
	for _, i := range []int{3, 7, 0, 1, 6, 5, 2, 4} {
		c := api.Cert{Side: i, Epoch: 0, Quality: 1, End: api.Hash{7}, Outs: outs(10 * (i + 1))}
		c = sign(t, c, i%4, 0, 1)
		if err := cert.Take(s, c, 8, api.Hash{7}); err != ok {
			t.Errorf("Take of side %d: %v", i, err)
		}
		row[i].Pending, row[i].Cert = true, c
		like(t, "sides", s, row)
	}
}

// R7: a nil State is ErrArg, ahead of all else.
func TestNil(t *testing.T) {
	x := good()
	for what, c := range map[string]api.Cert{"good": x.cert(t), "unsigned": x.c, "nothing": {}, "no such side": {Side: -1}} {
		if err := cert.Check(nil, c, x.height, x.end); err != errArg {
			t.Errorf("%s: Check of nil: %v, want ErrArg", what, err)
		}
		if err := cert.Take(nil, c, x.height, x.end); err != errArg {
			t.Errorf("%s: Take of nil: %v, want ErrArg", what, err)
		}
	}
}

// P14.1, R1: a State without sidechains has none to take for.
func TestEmpty(t *testing.T) {
	x := good()
	for what, s := range map[string]*registry.State{"new": registry.New(), "zero": {}} {
		c := x.cert(t)
		for i := range mostSides {
			c.Side = i
			if cert.Check(s, c, x.height, x.end) != errSide || cert.Take(s, c, x.height, x.end) != errSide {
				t.Errorf("%s: side %d: no ErrSide", what, i)
			}
		}
		if cert.Check(s, api.Cert{}, 1, api.Hash{}) != errForm || cert.Take(s, api.Cert{}, 1, api.Hash{}) != errForm {
			t.Errorf("%s: nothing: no ErrForm", what)
		}
		like(t, what, s, nil)
	}
}

// badForms are certificates that tx.May refuses, one edge each.
func badForms(t *testing.T) map[string]api.Cert {
	bad := map[string]api.Cert{"nothing": {}}
	bend := func(what string, f func(c *api.Cert)) {
		c := good().cert(t)
		f(&c)
		bad[what] = c
	}
	bend("Side below 0", func(c *api.Cert) { c.Side = -1 })
	bend("Side 8", func(c *api.Cert) { c.Side = mostSides })
	bend("Side 2, far", func(c *api.Cert) { c.Side = 1<<32 + place })
	bend("Epoch below 0", func(c *api.Cert) { c.Epoch = -1 })
	bend("Epoch 401", func(c *api.Cert) { c.Epoch = lastBlock + 1 })
	bend("Quality below 0", func(c *api.Cert) { c.Quality = -1 })
	bend("Quality above the best", func(c *api.Cert) { c.Quality = mostQuality + 1 })
	bend("seventeen Outs", func(c *api.Cert) { c.Outs = outs(slices.Repeat([]int{1}, mostOuts+1)...) })
	bend("an Out to nobody", func(c *api.Cert) { c.Outs[1].To = api.Hash{} })
	bend("an Out of 0", func(c *api.Cert) { c.Outs[0].Amount = 0 })
	bend("an Out below 0", func(c *api.Cert) { c.Outs[1].Amount = -1 })
	bend("an Out above MaxMoney", func(c *api.Cert) { c.Outs[1].Amount = most + 1 })
	bend("no Sigs", func(c *api.Cert) { c.Sigs = nil })
	bend("six Sigs", func(c *api.Cert) {
		for len(c.Sigs) <= mostKeys {
			c.Sigs = append(c.Sigs, c.Sigs[0])
		}
	})
	bend("Key below 0", func(c *api.Cert) { c.Sigs[0].Key = -1 })
	bend("Key 5", func(c *api.Cert) { c.Sigs[1].Key = mostKeys })
	bend("Index below 0", func(c *api.Cert) { c.Sigs[0].Sig.Index = -1 })
	bend("Index 256", func(c *api.Cert) { c.Sigs[1].Sig.Index = 256 })
	return bad
}

// P14.1, R6: ErrForm where a Certify of c may not be, whatever else is wrong.
func TestForm(t *testing.T) {
	for what, c := range badForms(t) {
		good().ask(t, what, c, errForm)
		x := good().waiting(9)
		x.side.Ceased, x.side.Balance, x.height = true, 0, 40
		x.ask(t, what+", ceased", c, errForm)
	}
}

// P14.1: ErrSide of a side that there is not, whatever it has.
func TestSide(t *testing.T) {
	for i := sides; i < mostSides; i++ {
		x := good()
		x.c.Side = i
		x.is(t, "no side", errSide)
	}
	x := good()
	x.c.Side = 0
	x.is(t, "another side", errTime)
}

// P14.1: ErrCease of what has ceased, though its window is open.
func TestCease(t *testing.T) {
	x := good()
	x.side.Ceased, x.side.At = true, 11
	x.is(t, "ceased", errCease)
	x = good().waiting(3)
	x.side.Ceased = true
	x.is(t, "ceased with one that waits", errCease)
	x.height = 30
	x.is(t, "ceased long ago", errCease)
}

// P14.1: ErrTime at each height outside of the epoch's window.
func TestHeights(t *testing.T) {
	for epoch := range 5 {
		for _, height := range append(count(40), far...) {
			x := good()
			x.c.Epoch, x.height = epoch, height
			wanted := errTime
			if first := 3 + 4*(epoch+1) + 1; height == first || height == first+1 {
				wanted = ok
			}
			x.is(t, "height", wanted)
		}
	}
}

// P14.1: an epoch is asked as it is, the last one, too.
func TestEpochs(t *testing.T) {
	for _, e := range []int{0, 1, 2, 255, 256, 257, lastBlock - 1, lastBlock} {
		x := good()
		x.c.Epoch, x.height = e, 3+4*(e+1)+1
		x.is(t, "epoch", ok)
		x.height += 2
		x.is(t, "past the epoch's window", errTime)
		x.height -= 3
		x.is(t, "the epoch's last block", errTime)
	}
}

// P14.1: ErrTime where End is not end: each bit of it counts.
func TestEnd(t *testing.T) {
	for bit := range 64 {
		x := good()
		x.end[bit/8] ^= 1 << (bit % 8)
		x.is(t, "another end", errTime)
		x.c.End, x.end = x.end, x.c.End
		x.is(t, "another End", errTime)
	}
	x := good()
	x.end = api.Hash{}
	x.is(t, "a zero end", errTime)
	x = good()
	x.c.End = api.Hash{}
	x.is(t, "a zero End", errTime)
}

// P14.1: ErrTime of a Side that has no epochs; what Set brought may be any.
func TestNoEpochs(t *testing.T) {
	for _, bend := range []func(x *scene){
		func(x *scene) { x.side.Params.Length = 0 },
		func(x *scene) { x.side.Params.Length = longest + 1 },
		func(x *scene) { x.side.Params.Window = -1 },
		func(x *scene) { x.side.Params.Window = longest + 1 },
		func(x *scene) { x.side.Made = -1 },
		func(x *scene) { x.side.Made = lastBlock + 1 },
		func(x *scene) { x.side = registry.Side{} },
	} {
		for height := range 30 {
			x := good()
			x.height = height
			bend(&x)
			x.is(t, "no epochs", errTime)
		}
	}
}

// P14.1: ErrQuality where the one that waits is not of a lower Quality; what waits no
// more counts no more.
func TestQuality(t *testing.T) {
	there := append([]int{0, 1, 6, 7, 8, mostQuality - 1, mostQuality, mostQuality + 1}, far...)
	for _, quality := range []int{0, 1, 7, 255, 256, 65536, mostQuality - 1, mostQuality} {
		for _, n := range append(there, quality-1, quality, quality+1) {
			x := good().waiting(n)
			x.c.Quality = quality
			wanted := ok
			if n >= quality {
				wanted = errQuality
			}
			x.is(t, "quality", wanted)
			x.side.Pending = false
			x.is(t, "quality of what waits no more", ok)
		}
	}
}

// P14.1: ErrMoney where the sum is above the Balance, or no sum may be; what was
// forwarded, has matured or was claimed makes no room.
func TestMoney(t *testing.T) {
	balances := append([]int{-5, 0, 1, 79, 80, 81, most - 1, most, most + 1, 2 * most, 16 * most}, far...)
	lists := [][]int{nil, {1}, {80}, {30, 50}, {81}, {most}, {most - 1, 1}, {most, 1}, {most / 2, most / 2}, {most/2 + 1, most / 2}, {1, most}, slices.Repeat([]int{most}, mostOuts), slices.Repeat([]int{most / 16}, mostOuts)}
	for _, balance := range balances {
		for _, l := range lists {
			x := good()
			x.side.Balance, x.c.Outs = balance, outs(l...)
			sum := new(big.Int)
			for _, n := range l {
				sum.Add(sum, big.NewInt(int64(n)))
			}
			wanted := ok
			if sum.Cmp(big.NewInt(most)) > 0 || sum.Cmp(big.NewInt(int64(balance))) > 0 {
				wanted = errMoney
			}
			x.is(t, "money", wanted)
		}
	}
	x := good().waiting(3)
	x.side.Balance, x.side.Forwarded, x.side.Matured, x.side.Claimed = 79, most, most, most
	x.is(t, "not its Balance", errMoney)
	x.side.Balance, x.side.Forwarded, x.side.Matured, x.side.Claimed = 80, 0, 0, 0
	x.is(t, "its Balance alone", ok)
}

// P14.1: what waits makes the Balance neither more nor less.
func TestMoneyOfWaiting(t *testing.T) {
	x := good().waiting(3)
	x.side.Cert.Outs, x.c.Outs = outs(100), outs(100)
	x.is(t, "all of it again", ok)
	x.c.Outs = outs(101)
	x.is(t, "one more", errMoney)
}

// count is 0, 1, .. to below n.
func count(n int) []int {
	var l []int
	for i := range n {
		l = append(l, i)
	}
	return l
}
