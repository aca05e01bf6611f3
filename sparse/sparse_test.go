package sparse_test

import (
	"crypto/sha256"
	"encoding/hex"
	"maps"
	"math"
	"slices"
	"testing"

	"drawbridge/api"
	"drawbridge/sparse"
)

// The signatures of the chapter.
var (
	_ func() *sparse.Tree                                                               = sparse.New
	_ func(*sparse.Tree, int, api.Hash) bool                                            = (*sparse.Tree).Put
	_ func(*sparse.Tree, int) api.Hash                                                  = (*sparse.Tree).Get
	_ func(*sparse.Tree) api.Hash                                                       = (*sparse.Tree).Root
	_ func(*sparse.Tree, int) ([api.Depth]api.Hash, bool)                               = (*sparse.Tree).Prove
	_ func(*sparse.Tree) *sparse.Tree                                                   = (*sparse.Tree).Copy
	_ func(*sparse.Tree) int                                                            = (*sparse.Tree).Len
	_ func(root api.Hash, i int, leaf api.Hash, proof [api.Depth]api.Hash) (leads bool) = sparse.Check
	_ func(i int, a api.Account) api.Hash                                               = sparse.Leaf
)

const (
	last = api.Accounts - 1
	// high is the bit that parts the places at the top.
	high = api.Accounts / 2
)

var (
	zero api.Hash
	// nowhere are places that no tree has.
	nowhere = []int{-1, -2, -high, -last, -api.Accounts, api.Accounts, api.Accounts + 1, 2*api.Accounts - 1, 2 * api.Accounts, 1 << 32, math.MinInt, math.MinInt + 1, math.MaxInt - last, math.MaxInt}
	// edges are places on both sides of a cut, at the ends and between.
	edges = []int{0, 1, 2, 3, 4, 7, 8, 255, 256, 257, 4095, 4096, 0x5555, high - 2, high - 1, high, high + 1, 0xaaaa, last - 256, last - 2, last - 1, last}
)

// leafAt is a leaf for each place, no two the same, none zero.
func leafAt(i int) api.Hash { return api.Hash{byte(i), byte(i >> 8), 1, 2, 3, 4, 5, byte(i*7 + 5)} }

// digest is the first eight bytes of the library's SHA-256 of the purpose and the parts,
// each with its length ahead.
func digest(purpose byte, parts ...[]byte) api.Hash {
	b := []byte{purpose}
	for _, p := range parts {
		b = append(b, byte(len(p)), byte(len(p)>>8), 0, 0)
		b = append(b, p...)
	}
	sum := sha256.Sum256(b)
	return api.Hash(sum[:8])
}

// node is the chapter's, of two below.
func node(left, right api.Hash) api.Hash {
	if left == zero && right == zero {
		return zero
	}
	return digest('n', left[:], right[:])
}

// model is a tree as a plain map of its leaves: its nodes are reckoned from the top, each
// time anew.
type model map[int]api.Hash

// put keeps what is not zero.
func (m model) put(i int, h api.Hash) {
	if delete(m, i); h != zero {
		m[i] = h
	}
}

// places are those that are taken, rising.
func (m model) places() []int { return slices.Sorted(maps.Keys(m)) }

// root is the node over the places from first on, width of them, of which l are taken.
func (m model) root(l []int, first, width int) api.Hash {
	if len(l) == 0 {
		return zero
	}
	if width == 1 {
		return m[first]
	}
	half := width / 2
	k, _ := slices.BinarySearch(l, first+half)
	return node(m.root(l[:k], first, half), m.root(l[k:], first+half, half))
}

// proof is the way from the top to i, what lies beside it, laid down from the end.
func (m model) proof(i int) [api.Depth]api.Hash {
	var proof [api.Depth]api.Hash
	l, first := m.places(), 0
	for step := api.Depth - 1; step >= 0; step-- {
		half := 1 << step
		k, _ := slices.BinarySearch(l, first+half)
		if i < first+half {
			proof[step] = m.root(l[k:], first+half, half)
			l = l[:k]
		} else {
			proof[step] = m.root(l[:k], first, half)
			l, first = l[k:], first+half
		}
	}
	return proof
}

// treeOf is a tree with leaves at places, and its model.
func treeOf(t *testing.T, places ...int) (*sparse.Tree, model) {
	t.Helper()
	tree, m := sparse.New(), model{}
	for _, i := range places {
		if !tree.Put(i, leafAt(i)) {
			t.Fatalf("Put at %d: false", i)
		}
		m.put(i, leafAt(i))
	}
	return tree, m
}

// like tells whether a tree has what its model has, at the places that are asked.
func like(t *testing.T, what string, tree *sparse.Tree, m model, places []int) {
	t.Helper()
	if got, want := tree.Root(), m.root(m.places(), 0, api.Accounts); got != want {
		t.Errorf("%s: Root %x, want %x", what, got, want)
	}
	if got := tree.Len(); got != len(m) {
		t.Errorf("%s: Len %d, want %d", what, got, len(m))
	}
	for _, i := range places {
		if got := tree.Get(i); got != m[i] {
			t.Errorf("%s: Get(%d) %x, want %x", what, i, got, m[i])
		}
		proof, ok := tree.Prove(i)
		if want := m.proof(i); !ok || proof != want {
			t.Errorf("%s: Prove(%d) %x, %v, want %x", what, i, proof, ok, want)
		}
		if !sparse.Check(tree.Root(), i, m[i], proof) {
			t.Errorf("%s: Check at %d: false", what, i)
		}
	}
}

// empty tells whether a tree has nothing.
func empty(t *testing.T, what string, tree *sparse.Tree) {
	t.Helper()
	like(t, what, tree, model{}, edges)
	for _, i := range edges {
		if proof, ok := tree.Prove(i); !ok || proof != [api.Depth]api.Hash{} {
			t.Errorf("%s: Prove(%d) %x, %v, want noughts", what, i, proof, ok)
		}
	}
}

// P6.1, the chapter's example: all leaves are zero at first, and so is the Root.
func TestEmpty(t *testing.T) {
	tree := sparse.New()
	if tree == nil {
		t.Fatal("New: nil")
	}
	empty(t, "new", tree)
	if tree.Root() != zero || tree.Len() != 0 {
		t.Errorf("new: Root %x, Len %d, want zero, 0", tree.Root(), tree.Len())
	}
}

// R1: a Tree that New did not make is an empty one.
func TestZeroTree(t *testing.T) {
	empty(t, "zero", &sparse.Tree{})
	empty(t, "its copy", (&sparse.Tree{}).Copy())
	var tree sparse.Tree
	if !tree.Put(9, zero) {
		t.Error("Put of zero: false")
	}
	empty(t, "zero put", &tree)
	if !tree.Put(9, leafAt(9)) {
		t.Error("Put: false")
	}
	like(t, "one put", &tree, model{9: leafAt(9)}, edges)
}

// P6.1: one leaf's way up, the highest bit first from the top: zero stands beside it.
func TestRootOfOne(t *testing.T) {
	for _, i := range edges {
		tree, _ := treeOf(t, i)
		want := leafAt(i)
		for bit := range api.Depth {
			if i>>bit&1 == 0 {
				want = digest('n', want[:], zero[:])
			} else {
				want = digest('n', zero[:], want[:])
			}
		}
		if got := tree.Root(); got != want {
			t.Errorf("Root of one at %d: %x, want %x", i, got, want)
		}
	}
}

// P6.1: places that differ in one bit meet where that bit parts them, the lowest at the
// bottom, the highest at the top, the one without the bit on the left.
func TestRootOfTwo(t *testing.T) {
	for _, i := range []int{0, 0x5555, 0xaaaa, last} {
		for bit := range api.Depth {
			j := i ^ 1<<bit
			at := map[int]api.Hash{i: leafAt(i), j: leafAt(j)}
			for step := range api.Depth {
				up := map[int]api.Hash{}
				for k := range at {
					up[k/2] = node(at[k&^1], at[k|1])
				}
				if at = up; len(at) == 1 != (step >= bit) {
					t.Fatalf("%d and %d don't meet at step %d", i, j, bit)
				}
			}
			tree, _ := treeOf(t, i, j)
			if got := tree.Root(); got != at[0] {
				t.Errorf("Root of %d and %d: %x, want %x", i, j, got, at[0])
			}
		}
	}
}

// P6.1: roots that were reckoned by another program.
func TestRootKnown(t *testing.T) {
	every := make([]int, 0, 700)
	for i := 0; i < api.Accounts; i += 97 {
		every = append(every, i)
	}
	for _, c := range []struct {
		places []int
		want   string
	}{
		{nil, "0000000000000000"},
		{[]int{0}, "17103c80f0b49815"},
		{[]int{1}, "c006b176723572c5"},
		{[]int{last}, "1ea5d871b49b70a3"},
		{[]int{high}, "17c1446e57d3a8d2"},
		{[]int{0, 1}, "3211750b67cb3e99"},
		{[]int{0, last}, "05adebc844554489"},
		{[]int{5, 6, 7, 8, 1000, 40000}, "1ca0c77ca5ce77ee"},
		{every, "665a88afeb85a95f"},
	} {
		tree, m := treeOf(t, c.places...)
		root := tree.Root()
		if got := hex.EncodeToString(root[:]); got != c.want {
			t.Errorf("Root of %d leaves: %s, want %s", len(c.places), got, c.want)
		}
		like(t, "known", tree, m, edges)
	}
}

// P6.1: a tree with a leaf at each of its places.
func TestFull(t *testing.T) {
	tree, m := sparse.New(), model{}
	for i := range api.Accounts {
		if !tree.Put(i, leafAt(i)) {
			t.Fatalf("Put at %d: false", i)
		}
		m.put(i, leafAt(i))
	}
	root := tree.Root()
	if got := hex.EncodeToString(root[:]); got != "bd24278e45b7c2bd" {
		t.Errorf("Root: %s", got)
	}
	if tree.Len() != api.Accounts {
		t.Errorf("Len: %d", tree.Len())
	}
	for i := range api.Accounts {
		if proof, ok := tree.Prove(i); tree.Get(i) != leafAt(i) || !ok || i%64 == 0 && !sparse.Check(root, i, leafAt(i), proof) {
			t.Fatalf("the leaf at %d is not there", i)
		}
	}
	like(t, "full", tree, m, []int{0, last})
	for i := range api.Accounts {
		tree.Put(i, zero)
	}
	empty(t, "emptied", tree)
}

// P6.1: leaves come, change and go, in any order: the tree is that of what is there now.
func TestPut(t *testing.T) {
	tree, m := sparse.New(), model{}
	x := uint32(1)
	next := func(n int) int {
		x = x*1664525 + 1013904223
		return int(x>>8) % n
	}
	for turn := range 3000 {
		i := next(api.Accounts)
		if turn%2 == 0 {
			i = edges[next(len(edges))]
		}
		h := api.Hash{byte(next(3)), 7: byte(next(2))}
		if !tree.Put(i, h) {
			t.Fatalf("Put at %d: false", i)
		}
		m.put(i, h)
		if got := tree.Get(i); got != h {
			t.Fatalf("Get(%d): %x, want %x", i, got, h)
		}
		if turn%50 == 0 {
			like(t, "on the way", tree, m, []int{i, i ^ 1, next(api.Accounts)})
		}
	}
	like(t, "at the end", tree, m, edges)
	for _, i := range m.places() {
		tree.Put(i, zero)
	}
	empty(t, "all taken away", tree)
}

// P6.1, R5: the order in which leaves came, what stood there ahead, and what came and
// went are not to be seen.
func TestOrder(t *testing.T) {
	tree, m := treeOf(t, edges...)
	other := sparse.New()
	for _, i := range slices.Backward(edges) {
		other.Put(i, api.Hash{1})
		other.Put(i^5, api.Hash{2})
		other.Put(i^5, zero)
	}
	for _, i := range edges {
		other.Put(i, leafAt(i))
		other.Put(i, leafAt(i))
	}
	like(t, "rising", tree, m, edges)
	like(t, "falling", other, m, edges)
}

// P6.1: Len counts places, not calls, nor leaves that differ.
func TestLen(t *testing.T) {
	tree := sparse.New()
	for n, c := range []struct {
		i    int
		leaf api.Hash
		want int
	}{
		{5, api.Hash{1}, 1},
		{5, api.Hash{1}, 1},
		{5, api.Hash{2}, 1},
		{6, api.Hash{2}, 2},
		{0, api.Hash{7: 1}, 3},
		{last, api.Hash{1}, 4},
		{9, zero, 4},
		{5, zero, 3},
		{5, zero, 3},
		{-1, api.Hash{1}, 3},
		{api.Accounts, api.Hash{1}, 3},
		{-1, zero, 3},
		{5, api.Hash{1}, 4},
		{0, zero, 3},
		{6, zero, 2},
		{last, zero, 1},
		{5, zero, 0},
	} {
		if tree.Put(c.i, c.leaf); tree.Len() != c.want {
			t.Errorf("step %d: Len %d, want %d", n, tree.Len(), c.want)
		}
	}
	empty(t, "all taken away", tree)
}

// P6.1, P6.2, R2, R3: of a place that there is not, Put is false and does nothing, Get is
// zero, Prove is false and noughts.
func TestNowhere(t *testing.T) {
	tree, m := treeOf(t, edges...)
	for _, i := range nowhere {
		for _, leaf := range []api.Hash{zero, {1}, leafAt(i)} {
			if tree.Put(i, leaf) {
				t.Errorf("Put at %d: true", i)
			}
		}
		if got := tree.Get(i); got != zero {
			t.Errorf("Get(%d): %x, want zero", i, got)
		}
		if proof, ok := tree.Prove(i); ok || proof != [api.Depth]api.Hash{} {
			t.Errorf("Prove(%d): %x, %v, want none", i, proof, ok)
		}
	}
	like(t, "refused", tree, m, edges)
	for _, i := range edges {
		tree.Put(i, zero)
	}
	empty(t, "refused, emptied", tree)
}

// R7: a nil Tree answers zero values.
func TestNil(t *testing.T) {
	var tree *sparse.Tree
	for _, i := range append(slices.Clone(nowhere), edges...) {
		if tree.Put(i, leafAt(i)) || tree.Put(i, zero) || tree.Get(i) != zero {
			t.Errorf("a nil Tree has a place %d", i)
		}
		if proof, ok := tree.Prove(i); ok || proof != [api.Depth]api.Hash{} {
			t.Errorf("Prove(%d) of nil: %x, %v, want none", i, proof, ok)
		}
	}
	if tree.Root() != zero || tree.Len() != 0 || tree.Copy() != nil {
		t.Error("a nil Tree has something")
	}
}

// P6.1: a Copy goes its own way, and so does what it was made of.
func TestCopy(t *testing.T) {
	tree, m := treeOf(t, edges...)
	twin := tree.Copy()
	like(t, "copy", twin, m, edges)
	changed, kept := maps.Clone(m), maps.Clone(m)
	for k, i := range edges {
		h := api.Hash{byte(k % 3), byte(k % 2)}
		twin.Put(i, h)
		changed.put(i, h)
		twin.Put(i^8, leafAt(3))
		changed.put(i^8, leafAt(3))
	}
	like(t, "left as it was", tree, kept, edges)
	like(t, "copy changed", twin, changed, edges)
	third := twin.Copy()
	for _, i := range edges {
		tree.Put(i, zero)
		twin.Put(i^1, leafAt(77))
	}
	empty(t, "emptied", tree)
	like(t, "copy of the copy", third, changed, edges)
	fresh := sparse.New()
	other := fresh.Copy()
	other.Put(3, leafAt(3))
	empty(t, "what was copied empty", fresh)
	fresh.Put(4, leafAt(4))
	like(t, "copy of the empty", other, model{3: leafAt(3)}, edges)
}

// P6.2: the other node at each step, from the leaf's own neighbour up.
func TestProveWrittenOut(t *testing.T) {
	a, b, c, d := leafAt(4), leafAt(5), leafAt(6), leafAt(high)
	tree, _ := treeOf(t, 4, 5, 6, high)
	top := d
	for range api.Depth - 1 {
		top = node(top, zero)
	}
	left := node(zero, node(node(a, b), node(c, zero)))
	for range api.Depth - 4 {
		left = node(left, zero)
	}
	proofOf := func(parts map[int]api.Hash) [api.Depth]api.Hash {
		var proof [api.Depth]api.Hash
		for step, h := range parts {
			proof[step] = h
		}
		return proof
	}
	for _, x := range []struct {
		i    int
		want [api.Depth]api.Hash
	}{
		{4, proofOf(map[int]api.Hash{0: b, 1: node(c, zero), 15: top})},
		{5, proofOf(map[int]api.Hash{0: a, 1: node(c, zero), 15: top})},
		{6, proofOf(map[int]api.Hash{1: node(a, b), 15: top})},
		{7, proofOf(map[int]api.Hash{0: c, 1: node(a, b), 15: top})},
		{0, proofOf(map[int]api.Hash{2: node(node(a, b), node(c, zero)), 15: top})},
		{high, proofOf(map[int]api.Hash{15: left})},
		{high + 1, proofOf(map[int]api.Hash{0: d, 15: left})},
	} {
		if got, ok := tree.Prove(x.i); !ok || got != x.want {
			t.Errorf("Prove(%d): %x, %v, want %x", x.i, got, ok, x.want)
		}
		if !sparse.Check(tree.Root(), x.i, tree.Get(x.i), x.want) {
			t.Errorf("Check at %d: false", x.i)
		}
	}
}

// P6.2: that a place is empty is proved as well: zero leads from there to the root, and
// nothing else does.
func TestCheckEmptyPlace(t *testing.T) {
	var none [api.Depth]api.Hash
	tree, _ := treeOf(t, 0, 6, 7, 4096, high+3)
	for _, i := range edges {
		if !sparse.Check(zero, i, zero, none) {
			t.Errorf("Check at %d of the empty tree: false", i)
		}
		if sparse.Check(zero, i, leafAt(i), none) || sparse.Check(leafAt(i), i, zero, none) {
			t.Errorf("Check at %d of the empty tree with a leaf, a root: true", i)
		}
		proof, _ := tree.Prove(i)
		if tree.Get(i) == zero != sparse.Check(tree.Root(), i, zero, proof) {
			t.Errorf("Check at %d with a zero leaf", i)
		}
		if tree.Get(i) == zero && sparse.Check(tree.Root(), i, leafAt(i), proof) {
			t.Errorf("Check at %d, where nothing is, with a leaf: true", i)
		}
		if sparse.Check(zero, i, tree.Get(i), proof) {
			t.Errorf("Check at %d with a zero root: true", i)
		}
	}
}

// P6.2: of a place that there is not, nothing is so, not even of the empty tree, nor
// where its lowest bits are those of one that there is.
func TestCheckNowhere(t *testing.T) {
	tree, _ := treeOf(t, edges...)
	for _, i := range nowhere {
		at := i & last
		proof, _ := tree.Prove(at)
		if !sparse.Check(tree.Root(), at, tree.Get(at), proof) {
			t.Errorf("Check at %d: false", at)
		}
		if sparse.Check(tree.Root(), i, tree.Get(at), proof) || sparse.Check(zero, i, zero, [api.Depth]api.Hash{}) {
			t.Errorf("Check at %d: true", i)
		}
	}
}

// P6.2: another place, another leaf and another's proof lead elsewhere.
func TestCheckOther(t *testing.T) {
	tree, _ := treeOf(t, edges...)
	root := tree.Root()
	for _, i := range edges {
		proof, _ := tree.Prove(i)
		for bit := range api.Depth {
			if sparse.Check(root, i^1<<bit, leafAt(i), proof) {
				t.Errorf("the leaf at %d is taken at %d", i, i^1<<bit)
			}
		}
		turned := proof
		slices.Reverse(turned[:])
		if sparse.Check(root, i, leafAt(i), turned) || sparse.Check(root, i, zero, proof) {
			t.Errorf("Check at %d with its proof turned, a zero leaf: true", i)
		}
		for _, j := range edges {
			other, _ := tree.Prove(j)
			if j != i && (sparse.Check(root, i, leafAt(j), proof) || sparse.Check(root, i, leafAt(j), other) || sparse.Check(root, i, leafAt(i), other)) {
				t.Errorf("Check at %d with what is of %d: true", i, j)
			}
		}
	}
}

// P6.2: one bit that is another in the root, the leaf or a part of the proof is seen.
func TestCheckBent(t *testing.T) {
	tree, _ := treeOf(t, edges...)
	root := tree.Root()
	for _, i := range []int{0, 9, 257, high - 1, high, 0xabcd, last} {
		proof, _ := tree.Prove(i)
		leaf := tree.Get(i)
		for bit := range 64 {
			bend := func(h api.Hash) api.Hash {
				h[bit/8] ^= 1 << (bit % 8)
				return h
			}
			if sparse.Check(bend(root), i, leaf, proof) || sparse.Check(root, i, bend(leaf), proof) {
				t.Errorf("Check at %d with bit %d bent: true", i, bit)
			}
			for step := range proof {
				bent := proof
				bent[step] = bend(bent[step])
				if sparse.Check(root, i, leaf, bent) {
					t.Errorf("Check at %d with bit %d of part %d bent: true", i, bit, step)
				}
			}
		}
	}
}

// P6.2: what was proved is so of the root that was, not of the one that is.
func TestCheckOldRoot(t *testing.T) {
	tree, _ := treeOf(t, edges...)
	old := tree.Root()
	for _, i := range edges {
		proof, _ := tree.Prove(i)
		twin := tree.Copy()
		twin.Put(i, api.Hash{200})
		if !sparse.Check(twin.Root(), i, api.Hash{200}, proof) || sparse.Check(old, i, api.Hash{200}, proof) || sparse.Check(twin.Root(), i, leafAt(i), proof) {
			t.Errorf("Check at %d where the leaf was changed", i)
		}
		twin.Put(i^high, api.Hash{201})
		if sparse.Check(twin.Root(), i, api.Hash{200}, proof) {
			t.Errorf("Check at %d with a proof of before: true", i)
		}
		if after, ok := tree.Prove(i); !ok || after != proof || tree.Root() != old {
			t.Errorf("Prove(%d) is another than it was", i)
		}
	}
}

// told is the chapter's leaf, its bytes written one by one.
func told(i int, a api.Account) api.Hash {
	n := uint64(a.Amount)
	amount := []byte{byte(n), byte(n >> 8), byte(n >> 16), byte(n >> 24), byte(n >> 32), byte(n >> 40), byte(n >> 48)}
	return digest('a', []byte{byte(i), byte(i >> 8)}, a.Owner[:], amount, []byte{byte(a.Nonce)})
}

// P6.3: leaves that were reckoned by another program.
func TestLeafKnown(t *testing.T) {
	for _, c := range []struct {
		i    int
		a    api.Account
		want string
	}{
		{0, api.Account{Owner: api.Hash{1}}, "044a01b6323d008b"},
		{258, api.Account{Owner: api.Hash{1, 2, 3, 4, 5, 6, 7, 8}, Amount: 0x0123456789abcd, Nonce: 9}, "a978cff5d48e5e5d"},
		{last, api.Account{Owner: api.Hash{255, 255, 255, 255, 255, 255, 255, 255}, Amount: 1<<56 - 1, Nonce: 255}, "e37ea90d299f13d8"},
		{7, api.Account{Owner: api.Hash{7: 1}, Amount: api.MaxMoney, Nonce: 1}, "a43763fd249459a0"},
	} {
		leaf := sparse.Leaf(c.i, c.a)
		if got := hex.EncodeToString(leaf[:]); got != c.want {
			t.Errorf("Leaf(%d, %v): %s, want %s", c.i, c.a, got, c.want)
		}
	}
}

// P6.3: at each number's edges: zero where one of them may not be, or nobody owns it.
func TestLeaf(t *testing.T) {
	amounts := []struct {
		n  int
		ok bool
	}{
		{0, true}, {1, true}, {255, true}, {256, true}, {5000, true}, {1 << 32, true}, {api.MaxMoney - 1, true}, {api.MaxMoney, true}, {api.MaxMoney + 1, true},
		{1<<56 - 1, true}, {1 << 56, false}, {1<<56 + 5, false}, {1 << 62, false}, {math.MaxInt, false},
		{-1, false}, {-255, false}, {-1 << 56, false}, {math.MinInt, false}, {math.MinInt + 1, false},
	}
	nonces := []struct {
		n  int
		ok bool
	}{
		{0, true}, {1, true}, {127, true}, {128, true}, {255, true},
		{256, false}, {257, false}, {1 << 16, false}, {1 << 40, false}, {math.MaxInt, false},
		{-1, false}, {-128, false}, {-256, false}, {math.MinInt, false},
	}
	owners := []api.Hash{{1}, {7: 1}, {3: 128}, leafAt(5), zero}
	for _, i := range append(slices.Clone(nowhere), edges...) {
		for _, amount := range amounts {
			for _, nonce := range nonces {
				for _, owner := range owners {
					a := api.Account{Owner: owner, Amount: amount.n, Nonce: nonce.n}
					want := zero
					if i >= 0 && i < api.Accounts && amount.ok && nonce.ok && owner != zero {
						want = told(i, a)
					}
					if got := sparse.Leaf(i, a); got != want {
						t.Errorf("Leaf(%d, %v): %x, want %x", i, a, got, want)
					}
				}
			}
		}
	}
}

// P6.3: the place, the owner, the amount and the nonce are all told.
func TestLeafTellsApart(t *testing.T) {
	owner := api.Hash{9, 8, 7, 6, 5, 4, 3, 2}
	seen := map[api.Hash]int{}
	see := func(i int, a api.Account) {
		t.Helper()
		leaf := sparse.Leaf(i, a)
		if other, there := seen[leaf]; there || leaf == zero {
			t.Errorf("Leaf(%d, %v) is zero, or that of number %d", i, a, other)
		}
		seen[leaf] = len(seen)
	}
	see(0, api.Account{Owner: owner})
	for bit := range 16 {
		see(1<<bit, api.Account{Owner: owner})
	}
	for bit := range 64 {
		other := owner
		other[bit/8] ^= 1 << (bit % 8)
		see(0, api.Account{Owner: other})
	}
	for bit := range 56 {
		see(0, api.Account{Owner: owner, Amount: 1 << bit})
	}
	for bit := range 8 {
		see(0, api.Account{Owner: owner, Nonce: 1 << bit})
	}
}

// P6.1 to P6.3 as one: an account in a tree is proved by its leaf, and by no other.
func TestAccounts(t *testing.T) {
	tree := sparse.New()
	account := func(i int) api.Account {
		return api.Account{Owner: api.Hash{1, byte(i)}, Amount: 100 + i, Nonce: i & 255}
	}
	for _, i := range edges {
		tree.Put(i, sparse.Leaf(i, account(i)))
	}
	if tree.Len() != len(edges) {
		t.Errorf("Len: %d, want %d", tree.Len(), len(edges))
	}
	for _, i := range edges {
		proof, _ := tree.Prove(i)
		a := account(i)
		if !sparse.Check(tree.Root(), i, sparse.Leaf(i, a), proof) {
			t.Errorf("the account %d is not proved", i)
		}
		a.Amount++
		if sparse.Check(tree.Root(), i, sparse.Leaf(i, a), proof) || sparse.Check(tree.Root(), i, sparse.Leaf(i^1, account(i)), proof) {
			t.Errorf("the account %d is proved with more than it has, or as another", i)
		}
	}
	for _, i := range edges {
		tree.Put(i, sparse.Leaf(i, api.Account{Amount: 5}))
	}
	empty(t, "nobody's accounts", tree)
}

// R4: the proofs and roots that were answered stay as they were, and what becomes of them
// is not to be seen in the tree.
func TestAnswersStay(t *testing.T) {
	tree, m := treeOf(t, edges...)
	proof, _ := tree.Prove(5)
	kept, root := proof, tree.Root()
	tree.Put(4, api.Hash{77})
	if proof != kept {
		t.Error("a proof changes with its tree")
	}
	tree.Put(4, leafAt(4))
	clear(proof[:])
	if again, _ := tree.Prove(5); again != kept || tree.Root() != root {
		t.Error("a tree changes with its proof")
	}
	sparse.Check(root, 5, leafAt(5), proof)
	sparse.Leaf(5, api.Account{Owner: api.Hash{1}})
	like(t, "as it was", tree, m, edges)
}
