package utxo_test

import (
	"bytes"
	"cmp"
	"go/ast"
	"go/parser"
	"go/token"
	"maps"
	"math"
	"math/rand"
	"slices"
	"testing"

	"drawbridge/api"
	"drawbridge/utxo"
)

// The signatures of the chapter.
var (
	_ func() *utxo.Set                                  = utxo.New
	_ func(*utxo.Set, api.Point, utxo.Coin) bool        = (*utxo.Set).Add
	_ func(*utxo.Set, api.Point) (utxo.Coin, bool)      = (*utxo.Set).Spend
	_ func(*utxo.Set, api.Point) (c utxo.Coin, ok bool) = (*utxo.Set).Get
	_ func(*utxo.Set) int                               = (*utxo.Set).Len
	_ func(*utxo.Set) int                               = (*utxo.Set).Total
	_ func(*utxo.Set) utxo.Undo                         = (*utxo.Set).Mark
	_ func(*utxo.Set, utxo.Undo) bool                   = (*utxo.Set).Back
	_ func(*utxo.Set) []api.Point                       = (*utxo.Set).Points
	_ func(*utxo.Set) *utxo.Set                         = (*utxo.Set).Copy
	_                                                   = utxo.Coin{Out: api.Out{}, Height: 0, Base: false}
)

// The limits as numbers.
const (
	most   = 1 << 50
	lastAt = 255
)

var (
	// farAt are places that no output has, some with the lowest byte of one that has.
	farAt = []int{-1, -2, -255, -256, lastAt + 1, lastAt + 2, 511, 512, 1 << 16, 1 << 32, 1<<32 + 7, -1 << 32, math.MaxInt, math.MinInt, math.MinInt + 7}
	// farAmounts are amounts that no coin has, some such that a sum would wrap round.
	farAmounts = []int{0, -1, -2, -5, -most, -most - 1, most + 1, 2 * most, 1 << 62, math.MaxInt, math.MaxInt - 5, math.MinInt, math.MinInt + 5}
)

// at is a point of a transaction, the n-th.
func at(n, place int) api.Point {
	return api.Point{Tx: api.Hash{byte(n), byte(n >> 8), 2: byte(n >> 16), 7: byte(n * 37)}, At: place}
}

// coin is one of an amount, told by n in its other fields.
func coin(n, amount int) utxo.Coin {
	return utxo.Coin{Out: api.Out{To: api.Hash{1, byte(n), byte(n >> 8)}, Amount: amount}, Height: 3*n - 7, Base: n%2 == 1}
}

// model is a set as a plain map, and as a whole map more for what it was ahead of each step.
type model struct {
	now  map[api.Point]utxo.Coin
	past []map[api.Point]utxo.Coin
}

func newModel() *model { return &model{now: map[api.Point]utxo.Coin{}} }

// begin keeps what is now, as what was ahead of a step.
func (m *model) begin() { m.past = append(m.past, maps.Clone(m.now)) }

func (m *model) add(p api.Point, c utxo.Coin) bool {
	_, there := m.now[p]
	if there || p.At < 0 || p.At > lastAt || c.Out.Amount < 1 || c.Out.Amount > most || m.total() > most-c.Out.Amount {
		return false
	}
	m.begin()
	m.now[p] = c
	return true
}

func (m *model) spend(p api.Point) (utxo.Coin, bool) {
	c, there := m.now[p]
	if there {
		m.begin()
		delete(m.now, p)
	}
	return c, there
}

func (m *model) back(steps int) bool {
	if steps > len(m.past) {
		return false
	}
	if steps < len(m.past) {
		m.now = maps.Clone(m.past[steps])
		m.past = m.past[:steps:steps]
	}
	return true
}

func (m *model) total() int {
	sum := 0
	for _, c := range m.now {
		sum += c.Out.Amount
	}
	return sum
}

func (m *model) points() []api.Point {
	return slices.SortedFunc(maps.Keys(m.now), func(a, b api.Point) int {
		return cmp.Or(bytes.Compare(a.Tx[:], b.Tx[:]), cmp.Compare(a.At, b.At))
	})
}

func (m *model) copy() *model {
	return &model{now: maps.Clone(m.now), past: slices.Clone(m.past)}
}

// like tells whether a set has what its model has.
func like(t *testing.T, what string, s *utxo.Set, m *model) {
	t.Helper()
	if s.Len() != len(m.now) || s.Total() != m.total() {
		t.Errorf("%s: Len %d, Total %d, want %d, %d", what, s.Len(), s.Total(), len(m.now), m.total())
	}
	if got, want := s.Points(), m.points(); !slices.Equal(got, want) {
		t.Errorf("%s: Points %v, want %v", what, got, want)
	}
	for p, want := range m.now {
		if c, ok := s.Get(p); !ok || c != want {
			t.Errorf("%s: Get(%v) %v, %v, want %v", what, p, c, ok, want)
		}
	}
}

// lacks tells whether nothing is there at a point.
func lacks(t *testing.T, what string, s *utxo.Set, p api.Point) {
	t.Helper()
	if c, ok := s.Get(p); ok || c != (utxo.Coin{}) {
		t.Errorf("%s: Get(%v) %v, %v, want none", what, p, c, ok)
	}
}

// add adds to both.
func add(t *testing.T, s *utxo.Set, m *model, p api.Point, c utxo.Coin) {
	t.Helper()
	if got, want := s.Add(p, c), m.add(p, c); got != want {
		t.Errorf("Add(%v, %v): %v, want %v", p, c, got, want)
	}
}

// spend spends of both.
func spend(t *testing.T, s *utxo.Set, m *model, p api.Point) {
	t.Helper()
	c, ok := s.Spend(p)
	if want, there := m.spend(p); ok != there || c != want {
		t.Errorf("Spend(%v): %v, %v, want %v, %v", p, c, ok, want, there)
	}
}

// some is a set of n coins, and its model.
func some(t *testing.T, n int) (*utxo.Set, *model) {
	t.Helper()
	s, m := utxo.New(), newModel()
	for i := range n {
		add(t, s, m, at(i, i%3), coin(i, 10+i))
	}
	like(t, "some", s, m)
	return s, m
}

// stand tells whether as many steps stand as those that a mark of another set tells: it
// goes back to there, so that it comes last.
func stand(t *testing.T, what string, s *utxo.Set, steps int) {
	t.Helper()
	if s.Back(markOf(steps + 1)) {
		t.Errorf("%s: more than %d steps stand", what, steps)
	}
	if !s.Back(markOf(steps)) {
		t.Errorf("%s: fewer than %d steps stand", what, steps)
	}
}

// markOf is the Mark of a set of which so many steps stand.
func markOf(steps int) utxo.Undo {
	s := utxo.New()
	for i := range steps {
		s.Add(at(i, 0), coin(i, 1))
	}
	return s.Mark()
}

// The chapter's example.
func TestExample(t *testing.T) {
	s, p := utxo.New(), at(1, 0)
	if !s.Add(p, coin(1, 5)) {
		t.Fatal("Add: false")
	}
	u := s.Mark()
	if c, ok := s.Spend(p); !ok || c != coin(1, 5) || s.Total() != 0 {
		t.Errorf("Spend: %v, %v, Total %d", c, ok, s.Total())
	}
	if !s.Back(u) || s.Total() != 5 {
		t.Errorf("Back: Total %d, want 5", s.Total())
	}
	like(t, "back", s, &model{now: map[api.Point]utxo.Coin{p: coin(1, 5)}})
}

// P11.1, R1: a Set that New made, or none made, has nothing, and takes a coin.
func TestEmpty(t *testing.T) {
	for what, s := range map[string]*utxo.Set{"new": utxo.New(), "zero": {}, "copy of new": utxo.New().Copy(), "copy of zero": (&utxo.Set{}).Copy()} {
		like(t, what, s, newModel())
		lacks(t, what, s, at(0, 0))
		if c, ok := s.Spend(at(0, 0)); ok || c != (utxo.Coin{}) {
			t.Errorf("%s: Spend %v, %v", what, c, ok)
		}
		if s.Back(markOf(1)) || !s.Back(s.Mark()) || !s.Back(utxo.Undo{}) || !s.Back(markOf(0)) {
			t.Errorf("%s: its steps are not 0", what)
		}
		if !s.Add(at(0, 0), coin(0, 1)) || s.Len() != 1 {
			t.Errorf("%s: takes no coin", what)
		}
		stand(t, what, s, 1)
	}
	if utxo.New() == nil || utxo.New() == utxo.New() {
		t.Error("New: none, or always one")
	}
}

// R7: a nil Set answers zero values.
func TestNil(t *testing.T) {
	var s *utxo.Set
	if s.Add(at(0, 0), coin(0, 1)) || s.Len() != 0 || s.Total() != 0 || len(s.Points()) != 0 || s.Copy() != nil {
		t.Error("a nil Set has something")
	}
	lacks(t, "nil", s, at(0, 0))
	if c, ok := s.Spend(at(0, 0)); ok || c != (utxo.Coin{}) {
		t.Errorf("Spend of nil: %v, %v", c, ok)
	}
	if s.Mark() != (utxo.Undo{}) || s.Back(utxo.Undo{}) || s.Back(s.Mark()) || s.Back(markOf(2)) {
		t.Error("a nil Set has steps")
	}
}

// P11.1, R6: a coin is kept as it is, whatever its other fields are.
func TestAddAny(t *testing.T) {
	s, m := utxo.New(), newModel()
	for i, c := range []utxo.Coin{
		{Out: api.Out{Amount: 1}},
		{Out: api.Out{Amount: 1}, Height: -1},
		{Out: api.Out{Amount: 1}, Height: math.MinInt, Base: true},
		{Out: api.Out{Amount: 2}, Height: math.MaxInt},
		{Out: api.Out{To: api.Hash{7: 1}, Amount: 5000}, Height: 401, Base: true},
		{Out: api.Out{To: api.Hash{255, 255, 255, 255, 255, 255, 255, 255}, Amount: 1 << 40}, Height: 1},
	} {
		add(t, s, m, at(i, i), c)
		if got, ok := s.Get(at(i, i)); !ok || got != c {
			t.Errorf("Get: %v, %v, want %v", got, ok, c)
		}
	}
	add(t, s, m, api.Point{}, coin(9, 1))
	like(t, "any", s, m)
	if s.Len() != 6 {
		t.Errorf("Len %d: the zero Point is that of the first", s.Len())
	}
}

// P11.1: At from 0 to 255, all of one Tx; others are refused.
func TestPlaces(t *testing.T) {
	s, m := utxo.New(), newModel()
	for place := lastAt; place >= 0; place-- {
		if !s.Add(at(1, place), coin(place, 1+place)) || !m.add(at(1, place), coin(place, 1+place)) {
			t.Errorf("Add at %d: false", place)
		}
	}
	for _, place := range farAt {
		if s.Add(at(1, place), coin(2, 1)) || s.Add(at(2, place), coin(2, 1)) {
			t.Errorf("Add at %d: true", place)
		}
		lacks(t, "far", s, at(1, place))
		if c, ok := s.Spend(at(1, place)); ok || c != (utxo.Coin{}) {
			t.Errorf("Spend at %d: %v, %v", place, c, ok)
		}
	}
	like(t, "all places", s, m)
	if s.Len() != 256 || s.Total() != 256*257/2 {
		t.Errorf("Len %d, Total %d", s.Len(), s.Total())
	}
	stand(t, "all places", s, 256)
}

// P11.1: an Amount from 1 to MaxMoney; others are refused, whatever is there.
func TestAmounts(t *testing.T) {
	for _, there := range []int{0, 1, 5, most - 1, most} {
		s, m := utxo.New(), newModel()
		if there > 0 {
			add(t, s, m, at(1, 0), coin(1, there))
		}
		for _, n := range farAmounts {
			if s.Add(at(2, 0), coin(2, n)) {
				t.Errorf("Add of %d to %d: true", n, there)
			}
			lacks(t, "refused", s, at(2, 0))
		}
		like(t, "refused", s, m)
		stand(t, "refused", s, min(there, 1))
	}
	for _, n := range []int{1, 2, 5, 5000, 1 << 31, 1 << 32, most - 1, most} {
		s := utxo.New()
		if !s.Add(at(1, 0), coin(1, n)) || s.Total() != n {
			t.Errorf("Add of %d: Total %d", n, s.Total())
		}
	}
}

// P11.1: the Total is at most MaxMoney; where a coin is gone there is room again.
func TestTotal(t *testing.T) {
	s, m := utxo.New(), newModel()
	half := most / 2
	add(t, s, m, at(1, 0), coin(1, half))
	if s.Add(at(2, 0), coin(2, half+1)) {
		t.Error("one above MaxMoney: true")
	}
	add(t, s, m, at(2, 0), coin(2, half-1))
	if s.Add(at(3, 0), coin(3, 2)) {
		t.Error("one above MaxMoney by the third: true")
	}
	add(t, s, m, at(3, 0), coin(3, 1))
	like(t, "at the limit", s, m)
	if s.Total() != most || s.Add(at(4, 0), coin(4, 1)) || s.Add(at(4, 0), coin(4, most)) {
		t.Error("beyond the limit")
	}
	full := s.Mark()
	spend(t, s, m, at(2, 0))
	if s.Add(at(4, 0), coin(4, half)) {
		t.Error("more than is gone: true")
	}
	add(t, s, m, at(4, 0), coin(4, half-1))
	like(t, "at the limit again", s, m)
	if s.Total() != most || s.Add(at(2, 0), coin(2, 1)) {
		t.Error("beyond the limit again")
	}
	if !s.Back(full) || !m.back(3) || s.Add(at(4, 0), coin(4, 1)) {
		t.Error("beyond the limit, gone back")
	}
	like(t, "gone back to the limit", s, m)
	stand(t, "gone back to the limit", s, 3)
}

// P11.1, R3: where a coin is there, none is added, and the one that is there stays.
func TestThere(t *testing.T) {
	s, m := some(t, 5)
	for i := range 5 {
		for _, c := range []utxo.Coin{coin(i, 10+i), coin(i, 11), coin(9, 1), coin(9, most), {}} {
			if s.Add(at(i, i%3), c) {
				t.Errorf("Add of %v where one is: true", c)
			}
		}
	}
	like(t, "there", s, m)
	spend(t, s, m, at(3, 0))
	add(t, s, m, at(3, 0), coin(9, 77))
	like(t, "another in its place", s, m)
	stand(t, "there", s, 7)
}

// P11.1: Spend answers the coin, which is gone then: of its own point alone.
func TestSpend(t *testing.T) {
	s, m := some(t, 12)
	for _, p := range []api.Point{at(0, 1), at(12, 0), at(5, 0), at(5, 258), {At: 2}, {Tx: api.Hash{5}, At: 2}, {Tx: api.Hash{7: 1}}} {
		if _, there := m.now[p]; there {
			t.Fatalf("%v is there", p)
		}
		spend(t, s, m, p)
		lacks(t, "not there", s, p)
	}
	like(t, "nothing spent", s, m)
	for i, n := range []int{5, 0, 11, 3, 4} {
		p := at(n, n%3)
		if c, ok := s.Spend(p); !ok || c != coin(n, 10+n) {
			t.Errorf("Spend: %v, %v, want %v", c, ok, coin(n, 10+n))
		}
		m.spend(p)
		lacks(t, "spent", s, p)
		if c, ok := s.Spend(p); ok || c != (utxo.Coin{}) {
			t.Errorf("Spend once more: %v, %v", c, ok)
		}
		if s.Len() != 11-i {
			t.Errorf("Len %d, want %d", s.Len(), 11-i)
		}
		like(t, "spent", s, m)
	}
	stand(t, "spent", s, 17)
}

// P11.1: Points are by Tx, byte by byte, then by At as a number; the order in which they
// came is not to be seen.
func TestPoints(t *testing.T) {
	want := []api.Point{
		{At: 0}, {At: 1}, {At: 9}, {At: 10}, {At: 127}, {At: 128}, {At: 255},
		{Tx: api.Hash{7: 1}, At: 0},
		{Tx: api.Hash{7: 255}, At: 3},
		{Tx: api.Hash{6: 1}, At: 2},
		{Tx: api.Hash{0, 1}, At: 0}, {Tx: api.Hash{0, 1}, At: 200},
		{Tx: api.Hash{0, 255, 255}, At: 1},
		{Tx: api.Hash{1}, At: 0},
		{Tx: api.Hash{1, 7: 1}, At: 0},
		{Tx: api.Hash{127, 255}, At: 5},
		{Tx: api.Hash{128}, At: 4},
		{Tx: api.Hash{255}, At: 0},
		{Tx: api.Hash{255, 255, 255, 255, 255, 255, 255, 255}, At: 255},
	}
	random := rand.New(rand.NewSource(11))
	for range 60 {
		s := utxo.New()
		for i, k := range random.Perm(len(want)) {
			s.Add(want[k], coin(i, 1+i))
			s.Add(at(i, 7), coin(i, 1))
			s.Spend(at(i, 7))
		}
		if got := s.Points(); !slices.Equal(got, want) {
			t.Fatalf("Points: %v, want %v", got, want)
		}
	}
}

// R4: Points is new memory, spare room too.
func TestPointsNew(t *testing.T) {
	s, m := some(t, 9)
	first, second := s.Points(), s.Points()
	clear(first[:cap(first)])
	if !slices.Equal(second, m.points()) {
		t.Error("two answers share memory")
	}
	like(t, "cleared", s, m)
	add(t, s, m, at(20, 0), coin(20, 1))
	spend(t, s, m, at(1, 1))
	like(t, "changed", s, m)
	if len(second) != 9 {
		t.Error("an answer changed")
	}
}

// P11.2, R3: each Add and Spend that did something is a step; what was refused, and what
// only asks, is none.
func TestSteps(t *testing.T) {
	s, m := some(t, 4)
	for range 3 {
		s.Add(at(0, 0), coin(1, 1))
		s.Add(at(7, 256), coin(1, 1))
		s.Add(at(7, -1), coin(1, 1))
		s.Add(at(7, 0), coin(1, 0))
		s.Add(at(7, 0), coin(1, most))
		s.Spend(at(7, 0))
		s.Spend(at(0, -1))
		s.Get(at(0, 0))
		s.Mark()
		s.Points()
		s.Copy().Add(at(7, 0), coin(1, 1))
		s.Len()
		s.Total()
		s.Back(s.Mark())
		s.Back(markOf(5))
	}
	like(t, "refused", s, m)
	if s.Back(markOf(5)) {
		t.Error("what was refused is a step")
	}
	spend(t, s, m, at(0, 0))
	spend(t, s, m, at(1, 1))
	add(t, s, m, at(0, 0), coin(0, 10))
	like(t, "as it was, nearly", s, m)
	stand(t, "seven", s.Copy(), 7)
	for steps := 7; steps >= 0; steps-- {
		if !s.Back(markOf(steps)) || !m.back(steps) {
			t.Errorf("Back to %d: false", steps)
		}
		like(t, "on the way back", s, m)
		if s.Back(markOf(steps+1)) || s.Back(markOf(steps+3)) {
			t.Errorf("of %d steps more than %d stand", steps, steps)
		}
		like(t, "refused on the way back", s, m)
	}
	if s.Len() != 0 || s.Total() != 0 || !s.Back(utxo.Undo{}) {
		t.Error("something is left")
	}
}

// P11.2: the last step is undone first: a point that had one coin after another has the
// one that was there, with each of its fields.
func TestLastFirst(t *testing.T) {
	s, m, p := utxo.New(), newModel(), at(3, 4)
	var marks []utxo.Undo
	for i := range 40 {
		marks = append(marks, s.Mark())
		if i%2 == 0 {
			add(t, s, m, p, coin(i, 1+i))
		} else {
			spend(t, s, m, p)
		}
	}
	for i := 39; i >= 0; i-- {
		far := s.Copy()
		if !far.Back(marks[i/2]) || !s.Back(marks[i]) {
			t.Fatalf("Back to %d: false", i)
		}
		m.back(i)
		like(t, "one by one", s, m)
		old := m.copy()
		old.back(i / 2)
		like(t, "many at once", far, old)
	}
}

// P11.2: Back does as often as it is asked; steps count anew from where it went to.
func TestBackAndOn(t *testing.T) {
	s, m := some(t, 6)
	at6 := s.Mark()
	for i := range 4 {
		spend(t, s, m, at(i, i%3))
	}
	at10 := s.Mark()
	for range 3 {
		if !s.Back(at6) {
			t.Fatal("Back: false")
		}
	}
	m.back(6)
	like(t, "back", s, m)
	if s.Back(at10) {
		t.Error("Back to what is undone: true")
	}
	like(t, "refused", s, m)
	for i := range 7 {
		add(t, s, m, at(50+i, 0), coin(i, 100*i+1))
	}
	like(t, "on", s, m)
	if !s.Back(at10) || !m.back(10) {
		t.Error("Back to ten steps of thirteen: false")
	}
	like(t, "a mark is a number of steps", s, m)
	if s.Mark() != at10 || !s.Back(s.Mark()) {
		t.Error("Mark isn't what was gone back to")
	}
	like(t, "where it is", s, m)
	stand(t, "where it is", s, 10)
}

// P11.2: a Copy is one of its own, with the same steps; marks of either count for both.
func TestCopy(t *testing.T) {
	s, m := some(t, 8)
	spend(t, s, m, at(2, 2))
	mark := s.Mark()
	spend(t, s, m, at(5, 2))
	add(t, s, m, at(5, 2), coin(60, 6))
	twin, n := s.Copy(), m.copy()
	like(t, "copy", twin, n)
	for i := range 9 {
		add(t, s, m, at(30+i, 0), coin(i, 1+i))
		spend(t, twin, n, at(i, i%3))
		add(t, twin, n, at(30+i, 1), coin(i, 200+i))
		like(t, "the one", s, m)
		like(t, "the other", twin, n)
	}
	third, o := twin.Copy(), n.copy()
	for steps := 20; steps >= 0; steps-- {
		if s.Back(markOf(steps)) != m.back(steps) || twin.Back(markOf(steps)) != n.back(steps) {
			t.Errorf("Back to %d", steps)
		}
		like(t, "the one, back", s, m)
		like(t, "the other, back", twin, n)
	}
	like(t, "the copy of the other", third, o)
	if !third.Back(mark) || !o.back(9) {
		t.Error("a mark of what was copied: false")
	}
	like(t, "the copy of the other, back", third, o)
	stand(t, "the copy of the other, back", third, 9)
}

// R4: rows of steps share no spare room: what one set does next is not what another undoes.
func TestCopyRoom(t *testing.T) {
	for length := range 40 {
		s, m := some(t, length)
		sets, models := []*utxo.Set{s}, []*model{m}
		for range 3 {
			sets, models = append(sets, s.Copy()), append(models, m.copy())
		}
		for step := range 3 {
			for k, x := range sets {
				add(t, x, models[k], at(1000+100*k+step, k), coin(k, 50+k))
			}
		}
		for k, x := range sets {
			like(t, "grown", x, models[k])
			if !x.Back(markOf(length+1)) || !models[k].back(length+1) {
				t.Fatal("Back: false")
			}
			like(t, "gone back", x, models[k])
		}
	}
}

// P11.1, P11.2: long plays of all of it, with marks and copies, held against the model.
func TestPlays(t *testing.T) {
	for seed := range 40 {
		random := rand.New(rand.NewSource(int64(seed)))
		s, m := utxo.New(), newModel()
		marks, counts := []utxo.Undo{s.Mark()}, []int{0}
		for range 400 {
			p := at(random.Intn(6), random.Intn(4)-1+random.Intn(2)*253)
			switch random.Intn(12) {
			case 0, 1, 2, 3, 4:
				amounts := []int{1, 5, random.Intn(1000) - 10, most / 3, most / 2, most, math.MaxInt}
				add(t, s, m, p, coin(random.Intn(1000), amounts[random.Intn(len(amounts))]))
			case 5, 6, 7, 8:
				spend(t, s, m, p)
			case 9:
				marks, counts = append(marks, s.Mark()), append(counts, len(m.past))
			case 10:
				k := random.Intn(len(marks))
				if got, want := s.Back(marks[k]), m.back(counts[k]); got != want {
					t.Fatalf("Back to %d: %v, want %v", counts[k], got, want)
				}
			case 11:
				s = s.Copy()
			}
			like(t, "play", s, m)
		}
		stand(t, "play", s, len(m.past))
	}
}

// R5: two sets to which the same was done answer the same, also where steps came between
// that were undone.
func TestSame(t *testing.T) {
	a, m := some(t, 30)
	b := utxo.New()
	for i := range 30 {
		u := b.Mark()
		b.Add(at(100+i, 0), coin(i, 3))
		b.Spend(at(i-1, (i+2)%3))
		b.Back(u)
		b.Add(at(i, i%3), coin(i, 10+i))
	}
	like(t, "plain", a, m)
	like(t, "with what was undone", b, m)
	stand(t, "with what was undone", b, 30)
}

// P11.2: a step costs no more where many stand: a hundred thousand of them, undone by parts.
func TestMany(t *testing.T) {
	const many = 100000
	s := utxo.New()
	marks := []utxo.Undo{s.Mark()}
	for i := range many {
		if !s.Add(at(i, i%256), coin(i, 1)) {
			t.Fatalf("Add of the coin %d: false", i)
		}
		marks = append(marks, s.Mark())
	}
	l := s.Points()
	if s.Len() != many || s.Total() != many || len(l) != many {
		t.Errorf("Len %d, Total %d, %d Points", s.Len(), s.Total(), len(l))
	}
	for _, p := range l {
		s.Spend(p)
	}
	if s.Len() != 0 || s.Total() != 0 || len(s.Points()) != 0 {
		t.Errorf("all spent: Len %d, Total %d", s.Len(), s.Total())
	}
	for steps := many; steps >= 0; steps-- {
		if !s.Back(marks[steps]) || s.Len() != steps || s.Total() != steps {
			t.Fatalf("Back to %d: Len %d, Total %d", steps, s.Len(), s.Total())
		}
	}
}

// DOC.md, Ways: what is there stands in a map, with coins by value; the chapter's: what
// was done is kept in a row, by value, too.
func TestWays(t *testing.T) {
	file, err := parser.ParseFile(token.NewFileSet(), "utxo.go", nil, 0)
	if err != nil {
		t.Fatal(err)
	}
	found := map[string]int{}
	ast.Inspect(file, func(n ast.Node) bool {
		decl, ok := n.(*ast.TypeSpec)
		if !ok || decl.Name.Name != "Set" {
			return true
		}
		ast.Inspect(decl.Type, func(n ast.Node) bool {
			switch x := n.(type) {
			case *ast.MapType:
				found["map"]++
				if value, ok := x.Value.(*ast.Ident); !ok || value.Name != "Coin" {
					t.Error("the map's values are not coins")
				}
			case *ast.ArrayType:
				found["row"]++
				if _, ok := x.Elt.(*ast.Ident); !ok {
					t.Error("the row's steps are not values")
				}
			}
			return true
		})
		return false
	})
	if found["map"] != 1 || found["row"] != 1 {
		t.Errorf("a Set has %d maps, %d rows, want one of each", found["map"], found["row"])
	}
}
