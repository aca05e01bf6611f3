package registry_test

import (
	"go/ast"
	"go/parser"
	"go/token"
	"maps"
	"math"
	"math/big"
	"math/rand"
	"reflect"
	"slices"
	"testing"

	"drawbridge/api"
	"drawbridge/registry"
)

// The signatures of the chapter.
var (
	_ func() *registry.State                                  = registry.New
	_ func(*registry.State, api.Params, int) (int, api.Errno) = (*registry.State).Create
	_ func(*registry.State, api.Forward) api.Errno            = (*registry.State).Forward
	_ func(*registry.State, int) (registry.Side, bool)        = (*registry.State).Side
	_ func(*registry.State) int                               = (*registry.State).Len
	_ func(*registry.State, int, registry.Side) bool          = (*registry.State).Set
	_ func(*registry.State) *registry.State                   = (*registry.State).Copy
	_ func(s *registry.State) int                             = (*registry.State).Total
	_ func(x registry.Side, height int) (int, bool)           = registry.Side.Epoch
	_ func(x registry.Side, e int) int                        = registry.Side.Ends
	_ func(x registry.Side, e, height int) bool               = registry.Side.Open
	_                                                         = registry.Side{Params: api.Params{}, Made: 0, Balance: 0, Forwarded: 0, Matured: 0, Claimed: 0, Ceased: false, At: 0, Root: api.Hash{}, Pending: false, Cert: api.Cert{}, Used: []int{}}
)

// The limits and the errors as numbers.
const (
	most      = 1 << 50
	mostSides = 8
	longest   = 64
	lastBlock = 400
	mostKeys  = 5

	ok       = api.Errno(0)
	errArg   = api.Errno(1)
	errForm  = api.Errno(4)
	errMoney = api.Errno(5)
	errSide  = api.Errno(8)
	errCease = api.Errno(14)
	errFull  = api.Errno(18)
)

var (
	// far are numbers that a sum wraps round with, or nearly.
	far = []int{math.MinInt, math.MinInt + 1, math.MinInt + most, -1 << 62, -1 << 32, 1 << 32, 1 << 62, math.MaxInt - most, math.MaxInt - 1, math.MaxInt}
	// noSides are numbers that no sidechain ever has, some with the lowest byte of one that has.
	noSides = []int{-1, -8, -256, mostSides, 9, 255, 256, 257, 1 << 32, 1<<32 + 1, math.MinInt, math.MaxInt}
)

// params are some that may be, told by n.
func params(n int) api.Params {
	p := api.Params{Length: 2 + n%63, Window: 1 + n%2, Need: 1 + n%3}
	for i := range 3 + n%3 {
		p.Keys = append(p.Keys, api.Hash{byte(n), 3, byte(i)})
	}
	return p
}

// forward is money for a sidechain.
func forward(side, amount int) api.Forward {
	return api.Forward{Side: side, Account: 7, Owner: api.Hash{9}, Amount: amount}
}

// whole is a Side whose every field is told by n.
func whole(n int) registry.Side {
	x := registry.Side{
		Params: params(n), Made: 5 * n, Balance: 100 + n, Forwarded: 500 + 3*n, Matured: 300 + n, Claimed: 100 + n,
		Ceased: n%2 == 1, At: 40 + n, Root: api.Hash{1, byte(n)}, Pending: n%3 == 1, Used: []int{n, n + 4, 60000 + n},
	}
	x.Cert = api.Cert{Side: n, Epoch: 2 * n, Quality: 70 + n, End: api.Hash{2, byte(n)}, Root: api.Hash{3, byte(n)}}
	x.Cert.Outs = []api.Out{{To: api.Hash{4, byte(n)}, Amount: 1 + n}, {To: api.Hash{5}, Amount: 2}}
	x.Cert.Sigs = []api.Signed{{Key: 0}, {Key: 1, Sig: api.Sig{Index: n, Open: [api.Bits]api.Hash{3: {byte(n)}}}}}
	return x
}

// spoil clears a Side's lists and their spare room: whatever shares their memory tells it.
func spoil(x registry.Side) {
	clear(x.Params.Keys[:cap(x.Params.Keys)])
	clear(x.Cert.Outs[:cap(x.Cert.Outs)])
	clear(x.Cert.Sigs[:cap(x.Cert.Sigs)])
	clear(x.Used[:cap(x.Used)])
}

// plain is x, its empty lists nil: nil and an empty list are one.
func plain(x registry.Side) registry.Side {
	if len(x.Params.Keys) == 0 {
		x.Params.Keys = nil
	}
	if len(x.Cert.Outs) == 0 {
		x.Cert.Outs = nil
	}
	if len(x.Cert.Sigs) == 0 {
		x.Cert.Sigs = nil
	}
	if len(x.Used) == 0 {
		x.Used = nil
	}
	return x
}

// same tells whether two Sides are one.
func same(a, b registry.Side) bool { return reflect.DeepEqual(plain(a), plain(b)) }

// like tells whether a State has these Sides, and no others.
func like(t *testing.T, what string, s *registry.State, want []registry.Side) {
	t.Helper()
	if s.Len() != len(want) {
		t.Errorf("%s: Len %d, want %d", what, s.Len(), len(want))
	}
	total := 0
	for i, w := range want {
		total += w.Balance
		if x, there := s.Side(i); !there || !same(x, w) {
			t.Errorf("%s: Side(%d): %+v, %v, want %+v", what, i, x, there, w)
		}
	}
	if s.Total() != total {
		t.Errorf("%s: Total %d, want %d", what, s.Total(), total)
	}
	for _, i := range append([]int{len(want), len(want) + 1}, noSides...) {
		if x, there := s.Side(i); there || !same(x, registry.Side{}) {
			t.Errorf("%s: Side(%d): %+v, %v, want none", what, i, x, there)
		}
	}
}

// some is a State of n sidechains, each of them set to what whole tells, and those.
func some(t *testing.T, n int) (*registry.State, []registry.Side) {
	t.Helper()
	s := registry.New()
	var want []registry.Side
	for i := range n {
		if next, err := s.Create(params(i), i); next != i || err != ok {
			t.Fatalf("Create of the %d: %d, %v", i, next, err)
		}
		if !s.Set(i, whole(i)) {
			t.Fatalf("Set(%d): false", i)
		}
		want = append(want, whole(i))
	}
	like(t, "some", s, want)
	return s, want
}

// one is a State of one sidechain that is x.
func one(t *testing.T, x registry.Side) *registry.State {
	t.Helper()
	s := registry.New()
	if _, err := s.Create(params(0), 1); err != ok || !s.Set(0, x) {
		t.Fatal("no sidechain")
	}
	return s
}

// The chapter's example.
func TestExample(t *testing.T) {
	x := registry.Side{Params: api.Params{Length: 4, Window: 2}, Made: 3}
	if e, there := x.Epoch(8); e != 1 || !there {
		t.Errorf("Epoch(8): %d, %v, want 1", e, there)
	}
	if end := x.Ends(0); end != 7 {
		t.Errorf("Ends(0): %d, want 7", end)
	}
	if !x.Open(0, 9) {
		t.Error("Open(0, 9): false")
	}
}

// P13.1, R1: a State that New made, or none made, has no sidechain, and takes one.
func TestEmpty(t *testing.T) {
	for what, s := range map[string]*registry.State{"new": registry.New(), "zero": {}, "copy of new": registry.New().Copy(), "copy of zero": (&registry.State{}).Copy()} {
		like(t, what, s, nil)
		if s.Set(0, whole(0)) || s.Forward(forward(0, 1)) != errSide {
			t.Errorf("%s: has a sidechain", what)
		}
		like(t, what, s, nil)
		if i, err := s.Create(params(1), 3); i != 0 || err != ok {
			t.Errorf("%s: Create: %d, %v", what, i, err)
		}
		like(t, what, s, []registry.Side{{Params: params(1), Made: 3}})
	}
	if registry.New() == nil || registry.New() == registry.New() {
		t.Error("New: none, or always one")
	}
}

// R7: a nil State answers zero values, ErrArg where an error is among them, whatever else
// is wrong.
func TestNil(t *testing.T) {
	var s *registry.State
	if s.Len() != 0 || s.Total() != 0 || s.Copy() != nil || s.Set(0, whole(0)) || s.Set(-1, registry.Side{}) {
		t.Error("a nil State has something")
	}
	for _, i := range []int{-1, 0, 1, 8} {
		if x, there := s.Side(i); there || !same(x, registry.Side{}) {
			t.Errorf("Side(%d) of nil: %+v, %v", i, x, there)
		}
	}
	for _, p := range []api.Params{params(0), {}} {
		if i, err := s.Create(p, 1); i != 0 || err != errArg {
			t.Errorf("Create of nil: %d, %v", i, err)
		}
	}
	for _, f := range []api.Forward{forward(0, 1), forward(9, 0), {}} {
		if err := s.Forward(f); err != errArg {
			t.Errorf("Forward of nil: %v", err)
		}
	}
}

// P13.1: Create answers one number after another, from 0 on; a Side has its Params and
// the height at which it was made, and nothing else.
func TestCreate(t *testing.T) {
	s := registry.New()
	var want []registry.Side
	for i := range mostSides {
		height := 3*i + 1
		if next, err := s.Create(params(i), height); next != i || err != ok {
			t.Errorf("Create: %d, %v, want %d", next, err, i)
		}
		want = append(want, registry.Side{Params: params(i), Made: height})
		like(t, "created", s, want)
	}
}

// P13.1: two sidechains may be of the same Params and height.
func TestCreateTwice(t *testing.T) {
	s := registry.New()
	for i := range 3 {
		if next, err := s.Create(params(4), 9); next != i || err != ok {
			t.Errorf("Create: %d, %v, want %d", next, err, i)
		}
	}
	x := registry.Side{Params: params(4), Made: 9}
	like(t, "twice", s, []registry.Side{x, x, x})
}

// R6: a height may be any.
func TestCreateHeights(t *testing.T) {
	for _, height := range append([]int{0, -1, 1, lastBlock, lastBlock + 1}, far...) {
		s := registry.New()
		if i, err := s.Create(params(2), height); i != 0 || err != ok {
			t.Errorf("Create at %d: %d, %v", height, i, err)
		}
		like(t, "height", s, []registry.Side{{Params: params(2), Made: height}})
	}
}

// badParams are those that quorum.May refuses, one edge each.
func badParams() map[string]api.Params {
	bad := map[string]api.Params{"nothing": {}}
	bend := func(what string, f func(p *api.Params)) {
		p := params(0)
		f(&p)
		bad[what] = p
	}
	bend("Length 1", func(p *api.Params) { p.Length, p.Window = 1, 1 })
	bend("Length 65", func(p *api.Params) { p.Length = longest + 1 })
	bend("Length below 0", func(p *api.Params) { p.Length = -4 })
	bend("Window 0", func(p *api.Params) { p.Window = 0 })
	bend("Window above Length", func(p *api.Params) { p.Window = p.Length + 1 })
	bend("Need 0", func(p *api.Params) { p.Need = 0 })
	bend("Need above the keys", func(p *api.Params) { p.Need = len(p.Keys) + 1 })
	bend("no keys", func(p *api.Params) { p.Keys = nil })
	bend("six keys", func(p *api.Params) {
		for i := len(p.Keys); i <= mostKeys; i++ {
			p.Keys = append(p.Keys, api.Hash{77, byte(i)})
		}
	})
	bend("a key twice", func(p *api.Params) { p.Keys[2] = p.Keys[0] })
	bend("a zero key", func(p *api.Params) { p.Keys[1] = api.Hash{} })
	return bad
}

// P13.1, R3, R6: ErrForm where quorum.May refuses, also where MaxSides are; nothing changes.
func TestCreateForm(t *testing.T) {
	for what, p := range badParams() {
		for _, n := range []int{0, 1, mostSides - 1, mostSides} {
			s, want := some(t, n)
			if i, err := s.Create(p, 5); i != 0 || err != errForm {
				t.Errorf("%s behind %d: %d, %v", what, n, i, err)
			}
			like(t, what, s, want)
			if i, err := s.Create(params(9), 5); n < mostSides && (i != n || err != ok) {
				t.Errorf("%s took a number: %d, %v", what, i, err)
			}
		}
	}
}

// P13.1: the Params at quorum's edges are taken.
func TestCreateEdges(t *testing.T) {
	five := params(2).Keys
	for _, p := range []api.Params{
		{Length: 2, Window: 1, Need: 1, Keys: five[:1]},
		{Length: 2, Window: 2, Need: 5, Keys: five},
		{Length: longest, Window: longest, Need: 1, Keys: five},
		{Length: longest, Window: 1, Need: 2, Keys: five[1:3]},
	} {
		s := registry.New()
		if i, err := s.Create(p, 1); i != 0 || err != ok {
			t.Errorf("Create of %v: %d, %v", p, i, err)
		}
		like(t, "edges", s, []registry.Side{{Params: p, Made: 1}})
	}
}

// P13.1, R2, R3: ErrFull where MaxSides are, also where some have ceased.
func TestFull(t *testing.T) {
	s, want := some(t, mostSides)
	for range 3 {
		if i, err := s.Create(params(1), 5); i != 0 || err != errFull {
			t.Errorf("Create: %d, %v, want ErrFull", i, err)
		}
	}
	like(t, "full", s, want)
	far := s.Copy()
	if i, err := far.Create(params(1), 5); i != 0 || err != errFull {
		t.Errorf("Create of the copy: %d, %v", i, err)
	}
}

// P13.1: Forward lets Balance and Forwarded be more, and nothing else, of its own side
// alone; what the account and its owner are isn't asked.
func TestForward(t *testing.T) {
	s, want := some(t, 6)
	for i := range want {
		want[i].Ceased = false
		s.Set(i, want[i])
	}
	for k, f := range []api.Forward{
		forward(0, 1), forward(5, 7), forward(0, 2), forward(3, 5000), forward(2, 1<<40),
		{Side: 4, Amount: 9}, {Side: 1, Account: -1, Amount: 3}, {Side: 1, Account: math.MaxInt, Owner: api.Hash{1}, Amount: 4},
	} {
		if err := s.Forward(f); err != ok {
			t.Errorf("Forward %d: %v", k, err)
		}
		want[f.Side].Balance += f.Amount
		want[f.Side].Forwarded += f.Amount
		like(t, "forwarded", s, want)
	}
}

// P13.1, R3, R6: ErrSide, then ErrCease, then ErrMoney; nothing changes.
func TestForwardOrder(t *testing.T) {
	s, want := some(t, 4)
	for _, amount := range []int{1, 5, 0, -1, most, most + 1, math.MaxInt, math.MinInt} {
		for _, i := range append([]int{4, 5, 7}, noSides...) {
			if err := s.Forward(forward(i, amount)); err != errSide {
				t.Errorf("Forward of %d to side %d: %v, want ErrSide", amount, i, err)
			}
		}
		for _, i := range []int{1, 3} {
			if err := s.Forward(forward(i, amount)); err != errCease {
				t.Errorf("Forward of %d to side %d: %v, want ErrCease", amount, i, err)
			}
		}
	}
	for _, amount := range []int{0, -1, -5, -most, -1 << 62, math.MinInt, math.MinInt + most, most + 1, 2 * most, 1 << 62, math.MaxInt - most, math.MaxInt} {
		if err := s.Forward(forward(2, amount)); err != errMoney {
			t.Errorf("Forward of %d: %v, want ErrMoney", amount, err)
		}
	}
	like(t, "refused", s, want)
}

// P13.1, R6: ErrMoney where Balance or Forwarded would be above MaxMoney, reckoned with
// numbers of any size; what Set brought may be any number.
func TestForwardEdges(t *testing.T) {
	there := append([]int{-most - 1, -most, -5, -1, 0, 1, 2, 5, most / 2, most - 5, most - 2, most - 1, most, most + 1, 2 * most}, far...)
	amounts := append([]int{-1, 0, 1, 2, 5, 6, most / 2, most/2 + 1, most - 2, most - 1, most, most + 1}, far...)
	limit := big.NewInt(most)
	fits := func(a, b int) bool {
		sum := new(big.Int).Add(big.NewInt(int64(a)), big.NewInt(int64(b)))
		return sum.Cmp(limit) <= 0
	}
	for _, balance := range there {
		for _, forwarded := range there {
			for _, n := range amounts {
				x := whole(0)
				x.Balance, x.Forwarded = balance, forwarded
				s := one(t, x)
				err := s.Forward(forward(0, n))
				if n >= 1 && n <= most && fits(balance, n) && fits(forwarded, n) {
					x.Balance, x.Forwarded = balance+n, forwarded+n
					if err != ok {
						t.Errorf("Forward of %d to %d, %d: %v", n, balance, forwarded, err)
					}
				} else if err != errMoney {
					t.Errorf("Forward of %d to %d, %d: %v, want ErrMoney", n, balance, forwarded, err)
				}
				if got, _ := s.Side(0); !same(got, x) {
					t.Errorf("Forward of %d to %d, %d: %d, %d", n, balance, forwarded, got.Balance, got.Forwarded)
				}
			}
		}
	}
}

// P13.1: Matured and Claimed make no room, and all that was ever forwarded counts.
func TestForwardedStays(t *testing.T) {
	x := registry.Side{Params: params(0), Balance: 0, Forwarded: most, Matured: most / 2, Claimed: most / 2}
	if err := one(t, x).Forward(forward(0, 1)); err != errMoney {
		t.Errorf("Forward: %v, want ErrMoney", err)
	}
	x.Forwarded, x.Pending, x.Root = most-1, true, api.Hash{}
	if err := one(t, x).Forward(forward(0, 1)); err != ok {
		t.Errorf("Forward: %v", err)
	}
}

// P13.1: Set changes its own Side, whatever x is; none where there is none.
func TestSet(t *testing.T) {
	s, want := some(t, 5)
	for k, i := range []int{3, 0, 4, 3, 1, 2, 2} {
		want[i] = whole(20 + k)
		if !s.Set(i, whole(20+k)) {
			t.Errorf("Set(%d): false", i)
		}
		like(t, "set", s, want)
	}
	for _, i := range append([]int{5, 6, 7}, noSides...) {
		if s.Set(i, whole(30)) {
			t.Errorf("Set(%d): true", i)
		}
	}
	like(t, "refused", s, want)
	want[4] = registry.Side{}
	want[0] = registry.Side{Params: api.Params{Length: -1, Keys: []api.Hash{{}, {}}}, Made: math.MinInt, Balance: -7, Used: []int{5, -1, 5}, At: math.MaxInt}
	if !s.Set(4, registry.Side{}) || !s.Set(0, want[0]) {
		t.Error("Set of what may not be: false")
	}
	like(t, "any", s, want)
	if i, err := s.Create(params(3), 8); i != 5 || err != ok {
		t.Errorf("Create behind a Set: %d, %v", i, err)
	}
}

// P13.1: Total is of all Balances, those of what has ceased, too, and above MaxMoney.
func TestTotal(t *testing.T) {
	s := registry.New()
	want := 0
	for i := range mostSides {
		s.Create(params(i), 1)
		if s.Total() != want || s.Forward(forward(i, most)) != ok {
			t.Errorf("Total %d, want %d", s.Total(), want)
		}
		want += most
		x, _ := s.Side(i)
		x.Ceased = true
		s.Set(i, x)
	}
	if s.Total() != 9007199254740992 {
		t.Errorf("Total %d, want eight times MaxMoney", s.Total())
	}
	s.Set(3, registry.Side{Balance: -5, Forwarded: 100, Matured: 70, Claimed: 30})
	if s.Total() != 7*most-5 {
		t.Errorf("Total %d, want %d", s.Total(), 7*most-5)
	}
}

// P13.1, R4: what is handed in isn't changed and isn't kept.
func TestIn(t *testing.T) {
	s := registry.New()
	p := params(2)
	room := append(slices.Clone(p.Keys), api.Hash{88}, api.Hash{89})
	p.Keys = room[:len(p.Keys)]
	s.Create(p, 4)
	if !slices.Equal(room[len(p.Keys):], []api.Hash{{88}, {89}}) || !reflect.DeepEqual(p, params(2)) {
		t.Error("Create changed its Params")
	}
	clear(room)
	like(t, "created", s, []registry.Side{{Params: params(2), Made: 4}})
	x := whole(6)
	s.Set(0, x)
	if !same(x, whole(6)) {
		t.Error("Set changed its Side")
	}
	spoil(x)
	like(t, "set", s, []registry.Side{whole(6)})
}

// R4: what is answered is new memory each time.
func TestOut(t *testing.T) {
	s, want := some(t, 3)
	first, _ := s.Side(1)
	second, _ := s.Side(1)
	spoil(first)
	if !same(second, want[1]) {
		t.Error("two answers share memory")
	}
	like(t, "spoilt", s, want)
	s.Set(1, whole(8))
	if !same(second, want[1]) {
		t.Error("an answer changed")
	}
	f := registry.New()
	f.Create(params(1), 2)
	early, _ := f.Side(0)
	f.Forward(forward(0, 5))
	if early.Balance != 0 {
		t.Error("an answer changed by a Forward")
	}
	spoil(early)
	like(t, "forwarded", f, []registry.Side{{Params: params(1), Made: 2, Balance: 5, Forwarded: 5}})
}

// P13.1, R4: one Side set at two places, and one answered and set again, share no memory.
func TestTwoPlaces(t *testing.T) {
	s, want := some(t, 3)
	x, _ := s.Side(0)
	s.Set(1, x)
	s.Set(2, x)
	want[1], want[2] = want[0], want[0]
	spoil(x)
	like(t, "two places", s, want)
	y, _ := s.Side(1)
	spoil(y)
	like(t, "spoilt", s, want)
}

// P13.1: a Copy is one of its own.
func TestCopy(t *testing.T) {
	s, want := some(t, 4)
	twin, other := s.Copy(), slices.Clone(want)
	like(t, "copy", twin, other)
	s.Set(0, whole(40))
	want[0] = whole(40)
	s.Forward(forward(2, 9))
	want[2].Balance, want[2].Forwarded = want[2].Balance+9, want[2].Forwarded+9
	s.Create(params(7), 7)
	want = append(want, registry.Side{Params: params(7), Made: 7})
	like(t, "the one", s, want)
	like(t, "the other", twin, other)
	twin.Create(params(8), 70)
	other = append(other, registry.Side{Params: params(8), Made: 70})
	twin.Set(2, whole(50))
	other[2] = whole(50)
	third := twin.Copy()
	twin.Set(3, whole(60))
	like(t, "third", third, other)
	other[3] = whole(60)
	like(t, "the one still", s, want)
	like(t, "the other on", twin, other)
	for i := range 5 {
		x, _ := twin.Side(i)
		spoil(x)
	}
	like(t, "the one, spoilt", s, want)
	like(t, "the other, spoilt", twin, other)
}

// P13.1, R5: what only asks, and what is refused, changes nothing.
func TestAsking(t *testing.T) {
	s, want := some(t, mostSides)
	for range 3 {
		s.Len()
		s.Total()
		s.Copy().Set(0, whole(9))
		s.Side(9)
		s.Set(8, whole(9))
		s.Set(-1, whole(9))
		s.Create(api.Params{}, 1)
		s.Create(params(1), 1)
		s.Forward(forward(8, 1))
		s.Forward(forward(0, 0))
		s.Forward(forward(1, 5))
	}
	like(t, "asked", s, want)
}

// model is a State as a plain row.
type model struct{ sides []registry.Side }

func (m *model) create(t *testing.T, s *registry.State, p api.Params, height int, may bool) {
	t.Helper()
	next, want := len(m.sides), ok
	if !may {
		want = errForm
	} else if next >= mostSides {
		want = errFull
	}
	if want == ok {
		m.sides = append(m.sides, registry.Side{Params: p, Made: height})
	} else {
		next = 0
	}
	if i, err := s.Create(p, height); i != next || err != want {
		t.Fatalf("Create: %d, %v, want %d, %v", i, err, next, want)
	}
}

func (m *model) forward(t *testing.T, s *registry.State, f api.Forward) {
	t.Helper()
	want := ok
	switch {
	case f.Side < 0 || f.Side >= len(m.sides):
		want = errSide
	case m.sides[f.Side].Ceased:
		want = errCease
	case f.Amount < 1 || f.Amount > most || max(m.sides[f.Side].Balance, m.sides[f.Side].Forwarded) > most-f.Amount:
		want = errMoney
	default:
		m.sides[f.Side].Balance += f.Amount
		m.sides[f.Side].Forwarded += f.Amount
	}
	if err := s.Forward(f); err != want {
		t.Fatalf("Forward %v: %v, want %v", f, err, want)
	}
}

// P13.1: long plays of all of it, with copies, held against the model.
func TestPlays(t *testing.T) {
	bad := badParams()
	whats := slices.Sorted(maps.Keys(bad))
	for seed := range 60 {
		random := rand.New(rand.NewSource(int64(seed)))
		s, m := registry.New(), &model{}
		for range 250 {
			i := random.Intn(10) - 1
			switch random.Intn(12) {
			case 0:
				m.create(t, s, params(random.Intn(200)), random.Intn(500), true)
			case 1:
				m.create(t, s, bad[whats[random.Intn(len(whats))]], 1, false)
			case 2, 3, 4, 5, 6, 7:
				amounts := []int{0, -1, 1, 1 + random.Intn(1000), most / 3, most / 2, most, most + 1, math.MaxInt}
				m.forward(t, s, forward(i, amounts[random.Intn(len(amounts))]))
			case 8, 9:
				x := whole(random.Intn(100))
				there := i >= 0 && i < len(m.sides)
				if there {
					m.sides[i] = whole(x.Cert.Side)
				}
				if s.Set(i, x) != there {
					t.Fatalf("Set(%d): %v", i, !there)
				}
				spoil(x)
			case 10:
				s = s.Copy()
			case 11:
				if x, there := s.Side(i); there {
					x.Ceased = !x.Ceased
					s.Set(i, x)
					m.sides[i].Ceased = x.Ceased
					spoil(x)
				}
			}
			like(t, "play", s, m.sides)
		}
	}
}

// side is one of which the epochs ask nothing else.
func side(made, length, window int) registry.Side {
	return registry.Side{Params: api.Params{Length: length, Window: window}, Made: made}
}

// counts are the Sides that have epochs, each number at and between its bounds.
func counts() []registry.Side {
	var l []registry.Side
	for _, made := range []int{0, 1, 3, 10, 399, lastBlock} {
		for _, length := range []int{1, 2, 3, 4, 7, 63, longest} {
			for _, window := range []int{0, 1, 2, 3, 4, 5, 63, longest} {
				l = append(l, side(made, length, window))
			}
		}
	}
	return l
}

// P13.2: the epochs are counted block by block: the first block behind Made is the first
// one of epoch 0, and each has Length of them.
func TestEpochs(t *testing.T) {
	for _, x := range counts() {
		for height := -3; height <= x.Made; height++ {
			if e, there := x.Epoch(height); e != 0 || there {
				t.Fatalf("%v: Epoch(%d): %d, %v, want none", x, height, e, there)
			}
		}
		epoch, blocks := 0, 0
		for height := x.Made + 1; height < x.Made+900; height++ {
			if e, there := x.Epoch(height); e != epoch || !there {
				t.Fatalf("%v: Epoch(%d): %d, %v, want %d", x, height, e, there, epoch)
			}
			if blocks++; blocks < x.Params.Length {
				continue
			}
			want := height
			if epoch > lastBlock {
				want = 0
			}
			if end := x.Ends(epoch); end != want {
				t.Fatalf("%v: Ends(%d): %d, want %d", x, epoch, end, want)
			}
			epoch, blocks = epoch+1, 0
		}
	}
}

// P13.2: an epoch's window is the Window blocks behind its end.
func TestWindows(t *testing.T) {
	for _, x := range counts() {
		for _, e := range []int{0, 1, 2, 3, 17, 399, lastBlock} {
			end := x.Made
			for range e + 1 {
				end += x.Params.Length
			}
			open := map[int]int{}
			for k := 1; k <= x.Params.Window; k++ {
				open[end+k] = 1
			}
			for height := end - 70; height <= end+140; height++ {
				if got := x.Open(e, height); got != (open[height] == 1) {
					t.Fatalf("%v: Open(%d, %d): %v, ends at %d", x, e, height, got, end)
				}
			}
			for _, height := range far {
				if x.Open(e, height) {
					t.Fatalf("%v: Open(%d, %d): true", x, e, height)
				}
			}
		}
	}
}

// P13.2: an epoch is from 0 to MaxBlocks; others never end and are never open, at whatever
// height.
func TestNoEpochs(t *testing.T) {
	for _, x := range counts() {
		if x.Ends(lastBlock) != x.Made+401*x.Params.Length {
			t.Errorf("%v: Ends(400): %d", x, x.Ends(lastBlock))
		}
		for _, e := range append([]int{-1, -2, -3, -64, -400, lastBlock + 1, lastBlock + 2, 1000}, far...) {
			if end := x.Ends(e); end != 0 {
				t.Fatalf("%v: Ends(%d): %d, want 0", x, e, end)
			}
			end := x.Made + (e+1)*x.Params.Length
			for k := -2; k < 70; k++ {
				if x.Open(e, k) || x.Open(e, end+k) {
					t.Fatalf("%v: Open(%d, ..): true", x, e)
				}
			}
		}
	}
}

// P13.2, R6: a height may be any that is above Made.
func TestFarHeights(t *testing.T) {
	for _, x := range counts() {
		for _, height := range far {
			want, there := new(big.Int).Sub(big.NewInt(int64(height)), big.NewInt(int64(x.Made+1))), height > x.Made
			want.Quo(want, big.NewInt(int64(x.Params.Length)))
			if !there {
				want.SetInt64(0)
			}
			if e, got := x.Epoch(height); got != there || int64(e) != want.Int64() {
				t.Errorf("%v: Epoch(%d): %d, %v, want %v, %v", x, height, e, got, want, there)
			}
		}
	}
}

// P13.2: a Side whose Length, Window or Made may not be has no epochs, wherever the others
// are; Params that quorum refuses (no keys, a Window of 0 or above Length) have.
func TestNoCount(t *testing.T) {
	var bad []registry.Side
	for _, n := range append([]int{0, -1, -4, longest + 1, 256 + 4, 1<<32 + 4}, far...) {
		bad = append(bad, side(3, n, 2), side(0, n, 0), side(lastBlock, n, longest))
	}
	for _, n := range append([]int{-1, -2, longest + 1, 256 + 2, 1<<32 + 2}, far...) {
		bad = append(bad, side(3, 4, n), side(0, 1, n), side(lastBlock, longest, n))
	}
	for _, n := range append([]int{-1, -2, -64, lastBlock + 1, 1 << 20, 1<<32 + 3}, far...) {
		bad = append(bad, side(n, 4, 2), side(n, 1, 0), side(n, longest, longest))
	}
	bad = append(bad, registry.Side{}, whole(-1), side(math.MinInt, 0, math.MaxInt))
	for _, x := range bad {
		for _, height := range append([]int{-1, 0, 1, 4, 8, 9, 300, lastBlock, 500, x.Made - 1, x.Made, x.Made + 1, x.Made + 6}, far...) {
			if e, there := x.Epoch(height); e != 0 || there {
				t.Errorf("%v: Epoch(%d): %d, %v", x, height, e, there)
			}
			for _, e := range []int{-1, 0, 1, 2, lastBlock} {
				if x.Ends(e) != 0 || x.Open(e, height) {
					t.Errorf("%v: Ends(%d) %d, Open(%d, %d) %v", x, e, x.Ends(e), e, height, x.Open(e, height))
				}
			}
		}
	}
}

// P13.2: neither what was done to a Side nor what else it has moves its epochs.
func TestElse(t *testing.T) {
	x := whole(3)
	x.Params, x.Made = api.Params{Length: 4, Window: 2, Need: -5}, 3
	if e, there := x.Epoch(8); e != 1 || !there || x.Ends(0) != 7 || x.Open(0, 7) || !x.Open(0, 8) || !x.Open(0, 9) || x.Open(0, 10) {
		t.Errorf("Epoch(8) %d, %v, Ends(0) %d", e, there, x.Ends(0))
	}
	if !same(x, func() registry.Side { y := whole(3); y.Params, y.Made = x.Params, 3; return y }()) {
		t.Error("x is another one")
	}
}

// DOC.md, Ways: what is there stands in a map; the chapter's: a record is a struct by value.
func TestWays(t *testing.T) {
	file, err := parser.ParseFile(token.NewFileSet(), "registry.go", nil, 0)
	if err != nil {
		t.Fatal(err)
	}
	found := 0
	ast.Inspect(file, func(n ast.Node) bool {
		decl, is := n.(*ast.TypeSpec)
		if !is || decl.Name.Name != "State" {
			return true
		}
		ast.Inspect(decl.Type, func(n ast.Node) bool {
			if x, is := n.(*ast.MapType); is {
				found++
				if value, is := x.Value.(*ast.Ident); !is || value.Name != "Side" {
					t.Error("the map's values are not Sides")
				}
			}
			return true
		})
		return false
	})
	if found != 1 {
		t.Errorf("a State has %d maps, want one", found)
	}
}
