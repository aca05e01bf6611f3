package keytree_test

import (
	"crypto/sha256"
	"encoding/hex"
	"math"
	"slices"
	"testing"

	"drawbridge/api"
	"drawbridge/keytree"
	"drawbridge/lamport"
	"drawbridge/merkle"
)

// The signatures of the chapter.
var (
	_ func(seed api.Hash) *keytree.Tree                          = keytree.New
	_ func(*keytree.Tree) api.Hash                               = (*keytree.Tree).Root
	_ func(*keytree.Tree, int, api.Hash) (s api.Sig, isOne bool) = (*keytree.Tree).Sign
	_ func(root, m api.Hash, s api.Sig) bool                     = keytree.Check
	_ func() int                                                 = keytree.Times
)

// number is how many keys a tree has, as the chapter writes it out.
const number = 8

var (
	zero api.Hash
	// seeds are those that trees are made of; two of them are as chapter 25 has them.
	seeds = []api.Hash{{}, {1}, {7: 1}, {1, 2, 3, 4, 5, 6, 7, 8}, {128}, {'o', 3}, {'c', 7, 4}, {255, 255, 255, 255, 255, 255, 255, 255}}
	// nowhere are indexes that no tree has: some have the lowest byte of one that it has.
	nowhere = []int{number, number + 1, 2*number - 1, 2 * number, 15, 16, 127, 128, 255, 256, 257, 256 + number - 1, 1 << 16, 1 << 32, 1<<32 + 5, -1, -2, -7, -8, -256, -255, math.MaxInt, math.MaxInt - 7, math.MinInt, math.MinInt + 1}
)

// messages are such that the bits which are signed are none, each alone, all but each, all.
func messages() []api.Hash {
	l := []api.Hash{{}, {255, 255}, {0x12, 0x34, 5, 6, 7, 8, 9, 10}, {0, 0, 255, 255, 255, 255, 255, 255}, {255, 255, 255, 255, 255, 255, 255, 255}}
	for i := range api.Bits {
		l = append(l, flip(zero, i), flip(api.Hash{255, 255}, i))
	}
	return l
}

// flip is a hash with one bit changed.
func flip(h api.Hash, i int) api.Hash {
	h[i/8] ^= 1 << (i % 8)
	return h
}

// digest is the first eight bytes of the library's SHA-256 of the purpose and the parts,
// each with its length ahead.
func digest(purpose byte, parts ...api.Hash) api.Hash {
	b := []byte{purpose}
	for _, p := range parts {
		b = append(b, byte(len(p)), 0, 0, 0)
		b = append(b, p[:]...)
	}
	sum := sha256.Sum256(b)
	return api.Hash(sum[:8])
}

// model is a tree as the chapter tells it: its keys, and its nodes from the lowest up.
type model struct {
	keys  [number]*lamport.Key
	nodes [api.KeyDepth + 1][]api.Hash
}

// modelOf is the tree that the seed makes, its nodes two by two from below.
func modelOf(seed api.Hash) model {
	var m model
	for index := range m.keys {
		m.keys[index] = lamport.Make(seed, index)
		m.nodes[0] = append(m.nodes[0], digest('l', m.keys[index].Public()))
	}
	for step := range api.KeyDepth {
		below := m.nodes[step]
		for i := 0; i < len(below); i += 2 {
			m.nodes[step+1] = append(m.nodes[step+1], digest('m', below[i], below[i+1]))
		}
	}
	return m
}

// root is the model's topmost node.
func (m model) root() api.Hash { return m.nodes[api.KeyDepth][0] }

// sign is the model's signature: at each step of the path the other node of the two.
func (m model) sign(index int, message api.Hash) api.Sig {
	s := api.Sig{Index: index}
	s.Open, s.Shut = m.keys[index].Sign(message)
	for step := range s.Path {
		s.Path[step] = m.nodes[step][index>>step^1]
	}
	return s
}

// signed is a tree's signature, that must be one.
func signed(t *testing.T, tree *keytree.Tree, index int, m api.Hash) api.Sig {
	t.Helper()
	s, ok := tree.Sign(index, m)
	if !ok {
		t.Fatalf("Sign(%d, %x): false", index, m)
	}
	return s
}

// text is a hash in base 16.
func text(h api.Hash) string { return hex.EncodeToString(h[:]) }

// The chapter's example.
func TestExample(t *testing.T) {
	for _, m := range messages() {
		if s, ok := keytree.New(api.Hash{1}).Sign(8, m); ok || s != (api.Sig{}) {
			t.Errorf("Sign(8, %x): %v, %v", m, s, ok)
		}
	}
}

// P8.1: a tree signs 2 to the KeyDepth times, 8.
func TestTimes(t *testing.T) {
	if n := keytree.Times(); n != number {
		t.Errorf("Times: %d", n)
	}
	if number != 1<<api.KeyDepth {
		t.Errorf("KeyDepth is %d", api.KeyDepth)
	}
}

// P8.1: trees that were reckoned by another program, and some of what they sign.
func TestKnown(t *testing.T) {
	m := api.Hash{0x02, 0x80}
	for _, c := range []struct {
		seed       api.Hash
		root       string
		index      int
		open, shut string
		path       [api.KeyDepth]string
	}{
		{api.Hash{}, "449a93582f0ae69f", 0, "97223c73d55d8336", "c84f409d13a6fb6d",
			[3]string{"e7a267288f2a40f1", "2c7c96a23181f573", "3ec0ab1fdfb28156"}},
		{api.Hash{1, 2, 3, 4, 5, 6, 7, 8}, "140bd68f8f27b2cb", 5, "21d8ca18b5afe803", "69c4f09866e3582c",
			[3]string{"8cdfc4c7c1f231c3", "05011f1530e376f9", "1aca71771ad60e3b"}},
		{api.Hash{255, 255, 255, 255, 255, 255, 255, 255}, "5dc80e088b15216f", 7, "618a9c337e8b9fd4", "c7bc5a3922a67fae",
			[3]string{"21388f8daee922e7", "acee034e2ee964f3", "587ae424fde935bc"}},
		{api.Hash{'o'}, "12f76b0d784e50e6", 5, "f586556291a257d7", "24c698d4890642ca",
			[3]string{"71ebe1d8bae4adb2", "46b755fd7a43bcd8", "aeca333a55a7437e"}},
		{api.Hash{'c', 7, 4}, "e81fd3877bd99b68", 0, "84ea0d79e052c187", "d46e082970546ceb",
			[3]string{"50d88324ae03e182", "7d47dd23978e213c", "428157062127a297"}},
	} {
		tree := keytree.New(c.seed)
		if got := text(tree.Root()); got != c.root {
			t.Errorf("seed %x: Root %s, want %s", c.seed, got, c.root)
		}
		s := signed(t, tree, c.index, m)
		if s.Index != c.index || text(s.Open[15]) != c.open || text(s.Shut[1]) != c.shut {
			t.Errorf("seed %x: Sign(%d): index %d, %x, %x", c.seed, c.index, s.Index, s.Open[15], s.Shut[1])
		}
		for step, h := range s.Path {
			if text(h) != c.path[step] {
				t.Errorf("seed %x: Sign(%d): step %d of the path is %x, want %s", c.seed, c.index, step, h, c.path[step])
			}
		}
		if !keytree.Check(tree.Root(), m, s) {
			t.Errorf("seed %x: Check of what %d signed: false", c.seed, c.index)
		}
	}
}

// P8.1: Root at each seed, as chapters 5 and 7 have it.
func TestRoot(t *testing.T) {
	for _, seed := range seeds {
		var publics []api.Hash
		for index := range number {
			publics = append(publics, lamport.Make(seed, index).Public())
		}
		got := keytree.New(seed).Root()
		if want := modelOf(seed).root(); got != want || got != merkle.Root(publics) {
			t.Errorf("seed %x: Root %x, want %x", seed, got, want)
		}
	}
}

// P8.1: no two seeds have one root, none has a zero one: a root is an owner.
func TestRootsApart(t *testing.T) {
	seen := map[api.Hash]bool{zero: true}
	for i := range 64 {
		for _, seed := range []api.Hash{flip(zero, i), flip(api.Hash{'o', 15, 3, 3, 3, 3, 3, 3}, i)} {
			root := keytree.New(seed).Root()
			if seen[root] {
				t.Errorf("seed %x: the root %x is zero, or there already", seed, root)
			}
			seen[root] = true
		}
	}
}

// P8.1: each key of each tree, at the edges of messages: what is signed, and that it is taken.
func TestSign(t *testing.T) {
	for _, seed := range seeds {
		tree, model := keytree.New(seed), modelOf(seed)
		root := model.root()
		for index := range number {
			for _, m := range messages() {
				s := signed(t, tree, index, m)
				if want := model.sign(index, m); s != want {
					t.Errorf("seed %x: Sign(%d, %x): %v, want %v", seed, index, m, s, want)
				}
				if !keytree.Check(root, m, s) {
					t.Errorf("seed %x: Check of Sign(%d, %x): false", seed, index, m)
				}
			}
		}
	}
}

// P8.1: of each key the path is merkle.Prove's, all of it.
func TestPath(t *testing.T) {
	seed := api.Hash{4, 2}
	var publics []api.Hash
	for index := range number {
		publics = append(publics, lamport.Make(seed, index).Public())
	}
	for index := range number {
		s := signed(t, keytree.New(seed), index, zero)
		want, _ := merkle.Prove(publics, index)
		if !slices.Equal(s.Path[:], want) {
			t.Errorf("Sign(%d): path %x, want %x", index, s.Path, want)
		}
	}
}

// P8.1, R2: of an index that a tree has not nothing is signed, and nothing is answered.
func TestSignNowhere(t *testing.T) {
	for _, seed := range seeds {
		tree := keytree.New(seed)
		for _, index := range nowhere {
			if s, ok := tree.Sign(index, api.Hash{3, 9}); ok || s != (api.Sig{}) {
				t.Errorf("seed %x: Sign(%d): %v, %v", seed, index, s, ok)
			}
		}
	}
}

// P8.1: what is right but for its Index is not taken: neither at an index that a tree has
// not, nor at another key's.
func TestCheckIndex(t *testing.T) {
	m := api.Hash{0x5a, 0x0f}
	for _, seed := range seeds {
		tree := keytree.New(seed)
		root := tree.Root()
		for index := range number {
			s := signed(t, tree, index, m)
			others := slices.Clone(nowhere)
			for other := range number {
				others = append(others, other, other+256, other-256, other+number, other-number)
			}
			for _, other := range others {
				s.Index = other
				if got := keytree.Check(root, m, s); got != (other == index) {
					t.Errorf("seed %x: what %d signed, at %d: %v", seed, index, other, got)
				}
			}
		}
	}
}

// P8.1: of 8 keys: those of a row of another number, with ways of other lengths, sign nothing here.
func TestCheckOtherDepth(t *testing.T) {
	seed, m := api.Hash{7, 7}, api.Hash{0x33, 0xcc}
	for _, n := range []int{1, 2, 4, 9, 12, 16} {
		var publics []api.Hash
		for index := range n {
			publics = append(publics, lamport.Make(seed, index).Public())
		}
		root := merkle.Root(publics)
		for index := range n {
			s := api.Sig{Index: index}
			s.Open, s.Shut = lamport.Make(seed, index).Sign(m)
			path, _ := merkle.Prove(publics, index)
			copy(s.Path[:], path)
			if keytree.Check(root, m, s) {
				t.Errorf("key %d of %d is taken", index, n)
			}
			if len(path) > api.KeyDepth {
				copy(s.Path[:], path[1:])
				if keytree.Check(root, m, s) {
					t.Errorf("key %d of %d is taken without its lowest step", index, n)
				}
			}
		}
	}
}

// P8.1: one bit that is another, in the root, in what is open or shut or in the path, is seen.
func TestCheckBent(t *testing.T) {
	m := api.Hash{0x12, 0x34}
	tree := keytree.New(api.Hash{8})
	root := tree.Root()
	for index := range number {
		s := signed(t, tree, index, m)
		for bit := range 64 {
			if keytree.Check(flip(root, bit), m, s) {
				t.Errorf("key %d: bit %d of the root is bent, and it is taken", index, bit)
			}
			for i := range api.Bits {
				open, shut := s, s
				open.Open[i], shut.Shut[i] = flip(s.Open[i], bit), flip(s.Shut[i], bit)
				if keytree.Check(root, m, open) || keytree.Check(root, m, shut) {
					t.Errorf("key %d: bit %d of hash %d is bent, and it is taken", index, bit, i)
				}
			}
			for step := range s.Path {
				bent := s
				bent.Path[step] = flip(s.Path[step], bit)
				if keytree.Check(root, m, bent) {
					t.Errorf("key %d: bit %d of step %d is bent, and it is taken", index, bit, step)
				}
			}
		}
	}
}

// P8.1: the message counts in the bits that are signed, and in no other.
func TestCheckMessage(t *testing.T) {
	m := api.Hash{0x3c, 0x91, 1, 2, 3}
	tree := keytree.New(api.Hash{2, 3})
	for index := range number {
		s := signed(t, tree, index, m)
		for bit := range 64 {
			if got := keytree.Check(tree.Root(), flip(m, bit), s); got != (bit >= api.Bits) {
				t.Errorf("key %d: a message with bit %d changed: %v", index, bit, got)
			}
		}
	}
}

// P8.1: what is another key's, another tree's, turned, or nothing at all, is not taken.
func TestCheckWrong(t *testing.T) {
	seed, m := api.Hash{2, 2}, api.Hash{0x5a, 0x0f}
	tree := keytree.New(seed)
	root := tree.Root()
	s, next := signed(t, tree, 2, m), signed(t, tree, 3, m)
	stranger := signed(t, keytree.New(flip(seed, 0)), 2, m)
	other := signed(t, tree, 2, api.Hash{0xa5, 0xf0})
	change := func(f func(c *api.Sig)) api.Sig {
		c := s
		f(&c)
		return c
	}
	for what, c := range map[string]api.Sig{
		"nothing":                 {},
		"nothing but the index":   {Index: 2},
		"nothing open":            change(func(c *api.Sig) { c.Open = [api.Bits]api.Hash{} }),
		"nothing shut":            change(func(c *api.Sig) { c.Shut = [api.Bits]api.Hash{} }),
		"no path":                 change(func(c *api.Sig) { c.Path = [api.KeyDepth]api.Hash{} }),
		"open for shut":           change(func(c *api.Sig) { c.Open, c.Shut = s.Shut, s.Open }),
		"the next key's path":     change(func(c *api.Sig) { c.Path = next.Path }),
		"the next key's open":     change(func(c *api.Sig) { c.Open = next.Open }),
		"the next key's shut":     change(func(c *api.Sig) { c.Shut = next.Shut }),
		"the next key, its index": change(func(c *api.Sig) { c.Open, c.Shut, c.Index = next.Open, next.Shut, 3 }),
		"the path from above":     change(func(c *api.Sig) { slices.Reverse(c.Path[:]) }),
		"the first two steps":     change(func(c *api.Sig) { c.Path[0], c.Path[1] = c.Path[1], c.Path[0] }),
		"the last two steps":      change(func(c *api.Sig) { c.Path[1], c.Path[2] = c.Path[2], c.Path[1] }),
		"another tree's":          stranger,
		"another tree's key":      change(func(c *api.Sig) { c.Open, c.Shut = stranger.Open, stranger.Shut }),
		"another tree's path":     change(func(c *api.Sig) { c.Path = stranger.Path }),
		"another message":         other,
	} {
		if keytree.Check(root, m, c) {
			t.Errorf("%s: it is taken", what)
		}
	}
	public := lamport.Make(seed, 2).Public()
	for _, owner := range []api.Hash{zero, keytree.New(flip(seed, 0)).Root(), public, seed, m, s.Path[2]} {
		if keytree.Check(owner, m, s) {
			t.Errorf("it is taken for the root %x", owner)
		}
	}
	if keytree.Check(zero, zero, api.Sig{}) {
		t.Error("nothing is taken for nothing")
	}
	if !keytree.Check(root, m, s) || !keytree.Check(root, m, next) {
		t.Error("what is right is not taken")
	}
}

// R7: a nil Tree answers zero values. R1: one that New didn't make doesn't panic.
func TestNil(t *testing.T) {
	var tree *keytree.Tree
	var made keytree.Tree
	if tree.Root() != zero {
		t.Error("Root of nil: not zero")
	}
	made.Root()
	for _, index := range append([]int{0, 1, 7}, nowhere...) {
		if s, ok := tree.Sign(index, api.Hash{1}); ok || s != (api.Sig{}) {
			t.Errorf("Sign(%d) of nil: %v, %v", index, s, ok)
		}
		made.Sign(index, api.Hash{1})
	}
}

// R3, R5: a tree doesn't change as it signs or refuses, nor as other trees are made: it
// answers again as it did, at whatever index.
func TestAnswersStay(t *testing.T) {
	seed, m := api.Hash{6, 5, 4}, api.Hash{0x77, 0x80, 1}
	tree := keytree.New(seed)
	root := tree.Root()
	var all [number]api.Sig
	for index := range all {
		all[index] = signed(t, tree, index, m)
	}
	for i, other := range messages() {
		s := signed(t, tree, i%number, other)
		keytree.Check(root, m, s)
		tree.Sign(nowhere[i%len(nowhere)], m)
		keytree.New(other).Sign(i%number, m)
		clear(s.Path[:])
	}
	copied := *tree
	for _, again := range []*keytree.Tree{tree, keytree.New(seed), &copied} {
		for index := number - 1; index >= 0; index-- {
			if signed(t, again, index, m) != all[index] || again.Root() != root {
				t.Errorf("Sign(%d) or Root answers something else", index)
			}
		}
	}
}
