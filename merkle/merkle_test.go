package merkle_test

import (
	"crypto/sha256"
	"encoding/hex"
	"math"
	"slices"
	"testing"

	"drawbridge/api"
	"drawbridge/merkle"
)

// The signatures of the chapter.
var (
	_ func([]api.Hash) api.Hash                                       = merkle.Root
	_ func([]api.Hash, int) ([]api.Hash, bool)                        = merkle.Prove
	_ func(root, leaf api.Hash, i, n int, proof []api.Hash) (ok bool) = merkle.Check
)

// most is how many leaves the chapter lets a row have.
const most = 65536

// row is n leaves that differ.
func row(n int) []api.Hash {
	l := make([]api.Hash, n)
	for i := range l {
		l[i] = api.Hash{byte(i), byte(i >> 8), byte(i >> 16), 1, 2, 3, 4, byte(i*7 + 5)}
	}
	return l
}

// digest is the first eight bytes of the library's SHA-256 of the purpose and the parts,
// each with its length, 8, ahead.
func digest(purpose byte, parts ...api.Hash) api.Hash {
	b := []byte{purpose}
	for _, p := range parts {
		b = append(b, 8, 0, 0, 0)
		b = append(b, p[:]...)
	}
	sum := sha256.Sum256(b)
	return api.Hash(sum[:8])
}

// levels are a row's nodes as they come from below, two by two, and one that is left
// over as it is: another way than the chapter's to the same roots.
func levels(l []api.Hash) [][]api.Hash {
	now := make([]api.Hash, len(l))
	for i, h := range l {
		now[i] = digest('l', h)
	}
	all := [][]api.Hash{now}
	for len(now) > 1 {
		var next []api.Hash
		for i := 0; i+1 < len(now); i += 2 {
			next = append(next, digest('m', now[i], now[i+1]))
		}
		if len(now)%2 == 1 {
			next = append(next, now[len(now)-1])
		}
		all = append(all, next)
		now = next
	}
	return all
}

// wantRoot is the top of the levels.
func wantRoot(l []api.Hash) api.Hash {
	if len(l) == 0 || len(l) > most {
		return api.Hash{}
	}
	all := levels(l)
	return all[len(all)-1][0]
}

// wantProof is, from level to level, the neighbour of the node above leaf i.
func wantProof(all [][]api.Hash, i int) []api.Hash {
	var proof []api.Hash
	for _, level := range all {
		if i^1 < len(level) {
			proof = append(proof, level[i^1])
		}
		i /= 2
	}
	return proof
}

// wantCheck climbs by the levels' widths.
func wantCheck(root, leaf api.Hash, i, n int, proof []api.Hash) bool {
	if i < 0 || i >= n || n > most {
		return false
	}
	at := digest('l', leaf)
	for ; n > 1; i, n = i/2, (n+1)/2 {
		if i^1 >= n {
			continue
		}
		if len(proof) == 0 {
			return false
		}
		if i%2 == 0 {
			at = digest('m', at, proof[0])
		} else {
			at = digest('m', proof[0], at)
		}
		proof = proof[1:]
	}
	return len(proof) == 0 && at == root
}

// P5.1: the chapter's words one by one, at rows that are short enough to be written out.
func TestRootWrittenOut(t *testing.T) {
	a, b, c, d, e, f, g := api.Hash{1}, api.Hash{2}, api.Hash{3}, api.Hash{4}, api.Hash{5}, api.Hash{6}, api.Hash{7}
	leaf := func(h api.Hash) api.Hash { return digest('l', h) }
	two := func(x, y api.Hash) api.Hash { return digest('m', x, y) }
	ab, cd, ef := two(leaf(a), leaf(b)), two(leaf(c), leaf(d)), two(leaf(e), leaf(f))
	for i, c := range []struct {
		l    []api.Hash
		want api.Hash
	}{
		{nil, api.Hash{}},
		{[]api.Hash{}, api.Hash{}},
		{[]api.Hash{a}, leaf(a)},
		{[]api.Hash{{}}, leaf(api.Hash{})},
		{[]api.Hash{a, b}, ab},
		{[]api.Hash{a, a}, two(leaf(a), leaf(a))},
		{[]api.Hash{{}, {}}, two(leaf(api.Hash{}), leaf(api.Hash{}))},
		{[]api.Hash{a, b, c}, two(ab, leaf(c))},
		{[]api.Hash{a, b, c, d}, two(ab, cd)},
		{[]api.Hash{a, b, c, d, e}, two(two(ab, cd), leaf(e))},
		{[]api.Hash{a, b, c, d, e, f}, two(two(ab, cd), ef)},
		{[]api.Hash{a, b, c, d, e, f, g}, two(two(ab, cd), two(ef, leaf(g)))},
	} {
		if got := merkle.Root(c.l); got != c.want {
			t.Errorf("row %d: Root %x, want %x", i, got, c.want)
		}
	}
}

// P5.1: a root that was reckoned by another program.
func TestRootKnown(t *testing.T) {
	for _, c := range []struct {
		n    int
		want string
	}{
		{1, "3603cc3c88036c70"},
		{2, "d14f3af79c63333a"},
		{3, "0bbc56f9999545cb"},
		{6, "4e00f6010fd5282d"},
		{8, "97bf74cfe974352e"},
		{21, "87b258ac070194b4"},
		{1000, "b7ca00d95946a031"},
		{65536, "5866b171af4e6134"},
	} {
		root := merkle.Root(row(c.n))
		if got := hex.EncodeToString(root[:]); got != c.want {
			t.Errorf("Root of %d: %s, want %s", c.n, got, c.want)
		}
	}
}

// P5.1: at each length of a row, above all about powers of two, and at the most.
func TestRoot(t *testing.T) {
	lengths := []int{127, 128, 129, 255, 256, 257, 1000, 4095, 4096, 4097, 32767, 32768, 32769, most - 1, most}
	for n := range 70 {
		lengths = append(lengths, n)
	}
	for _, n := range lengths {
		l := row(n)
		if got, want := merkle.Root(l), wantRoot(l); got != want {
			t.Errorf("Root of %d: %x, want %x", n, got, want)
		}
	}
}

// P5.1: of more than 65536 the root is zero; of that many it is not.
func TestRootTooMany(t *testing.T) {
	if merkle.Root(row(most)) == (api.Hash{}) {
		t.Error("Root of 65536 is zero")
	}
	for _, n := range []int{most + 1, most + 2, 2 * most, 1 << 20} {
		if got := merkle.Root(row(n)); got != (api.Hash{}) {
			t.Errorf("Root of %d: %x, want zero", n, got)
		}
	}
}

// P5.1: rows that differ have roots that differ: in a leaf, in their order, in their
// length, and where a node stands as a leaf.
func TestRootTellsApart(t *testing.T) {
	a, b, c, d := api.Hash{1}, api.Hash{2}, api.Hash{3}, api.Hash{4}
	ab, cd := merkle.Root([]api.Hash{a, b}), merkle.Root([]api.Hash{c, d})
	seen := map[api.Hash]int{}
	for i, l := range [][]api.Hash{
		{a}, {b}, {{}}, {a, a}, {a, b}, {b, a}, {a, {}}, {{}, a}, {a, a, a}, {a, b, c}, {a, c, b}, {c, a, b},
		{a, b, c, c}, {a, b, c, d}, {a, b, d, c}, {c, d, a, b}, {ab}, {ab, cd}, {ab, c, d}, {a, b, cd},
		{merkle.Root([]api.Hash{a})}, {merkle.Root([]api.Hash{a}), merkle.Root([]api.Hash{b})},
	} {
		root := merkle.Root(l)
		if other, there := seen[root]; there {
			t.Errorf("rows %d and %d have one root", other, i)
		}
		seen[root] = i
	}
}

// The chapter's example, and P5.2's order: the lowest first.
func TestProveWrittenOut(t *testing.T) {
	a, b, c, d, e := api.Hash{1}, api.Hash{2}, api.Hash{3}, api.Hash{4}, api.Hash{5}
	root := func(l ...api.Hash) api.Hash { return merkle.Root(l) }
	for _, x := range []struct {
		l    []api.Hash
		i    int
		want []api.Hash
	}{
		{[]api.Hash{a, b, c}, 2, []api.Hash{root(a, b)}},
		{[]api.Hash{a, b, c}, 0, []api.Hash{root(b), root(c)}},
		{[]api.Hash{a, b, c}, 1, []api.Hash{root(a), root(c)}},
		{[]api.Hash{a}, 0, nil},
		{[]api.Hash{a, b}, 0, []api.Hash{root(b)}},
		{[]api.Hash{a, b}, 1, []api.Hash{root(a)}},
		{[]api.Hash{a, b, c, d}, 2, []api.Hash{root(d), root(a, b)}},
		{[]api.Hash{a, b, c, d, e}, 1, []api.Hash{root(a), root(c, d), root(e)}},
		{[]api.Hash{a, b, c, d, e}, 4, []api.Hash{root(a, b, c, d)}},
	} {
		got, ok := merkle.Prove(x.l, x.i)
		if !ok || !slices.Equal(got, x.want) {
			t.Errorf("Prove of %d of %d: %x, %v, want %x", x.i, len(x.l), got, ok, x.want)
		}
		if !merkle.Check(merkle.Root(x.l), x.l[x.i], x.i, len(x.l), x.want) {
			t.Errorf("Check of %d of %d: false", x.i, len(x.l))
		}
	}
}

// provePlaces asks Prove, and Check of what it answers, at places of a row.
func provePlaces(t *testing.T, n int, places []int) {
	t.Helper()
	l := row(n)
	root, all := merkle.Root(l), levels(l)
	for _, i := range places {
		proof, ok := merkle.Prove(l, i)
		if want := wantProof(all, i); !ok || !slices.Equal(proof, want) {
			t.Errorf("Prove of %d of %d: %x, %v, want %x", i, n, proof, ok, want)
		}
		if !merkle.Check(root, l[i], i, n, proof) {
			t.Errorf("Check of %d of %d: false", i, n)
		}
	}
}

// P5.2: each leaf of each row is proved, and its proof is taken.
func TestProve(t *testing.T) {
	for n := 1; n < 70; n++ {
		places := make([]int, n)
		for i := range places {
			places[i] = i
		}
		provePlaces(t, n, places)
	}
	for _, n := range []int{255, 256, 257, 4097, 32768, 32769, most - 1, most} {
		provePlaces(t, n, []int{0, 1, 2, n / 2, n/2 + 1, n - 2, n - 1})
	}
}

// P5.2, R2: a place that a row has not, and a row of too many: false, and no proof.
func TestProveNone(t *testing.T) {
	for _, n := range []int{0, 1, 2, 3, 4, 7, 8, 9, most - 1, most, most + 1, 2 * most} {
		places := []int{-1, -2, -n, n, n + 1, 2 * n, most, math.MinInt, math.MinInt + 1, math.MaxInt}
		if n > most {
			places = append(places, 0, 1, n/2, n-1)
		}
		l := row(n)
		for _, i := range places {
			if i >= 0 && i < n && n <= most {
				continue
			}
			if proof, ok := merkle.Prove(l, i); ok || len(proof) != 0 {
				t.Errorf("Prove of %d of %d: %x, %v, want none", i, n, proof, ok)
			}
		}
	}
	if proof, ok := merkle.Prove(nil, 0); ok || len(proof) != 0 {
		t.Errorf("Prove of 0 of nil: %x, %v, want none", proof, ok)
	}
}

// P5.2: Check of each place and number, right or not, with the proof of each leaf.
func TestCheckOtherPlaces(t *testing.T) {
	for n := 1; n <= 17; n++ {
		l := row(n)
		root := merkle.Root(l)
		for i := range n {
			proof, _ := merkle.Prove(l, i)
			for m := -2; m <= 20; m++ {
				for j := -2; j <= 20; j++ {
					got, want := merkle.Check(root, l[i], j, m, proof), wantCheck(root, l[i], j, m, proof)
					if got != want {
						t.Errorf("the proof of %d of %d: Check at %d of %d: %v", i, n, j, m, got)
					}
					if got && m == n && j != i {
						t.Errorf("the leaf at %d of %d is taken at %d", i, n, j)
					}
				}
			}
		}
	}
}

// P5.2: places and numbers that may not be: false, whatever else is handed in.
func TestCheckNoRow(t *testing.T) {
	l := row(1)
	root := merkle.Root(l)
	if !merkle.Check(root, l[0], 0, 1, nil) || !merkle.Check(root, l[0], 0, 1, []api.Hash{}) {
		t.Error("Check of 0 of 1: false")
	}
	wrong := []int{-1, -2, math.MinInt, math.MinInt + 1}
	for _, c := range []struct{ places, numbers []int }{
		{wrong, []int{1, 2, most}},
		{[]int{0, 1}, wrong},
		{wrong, wrong},
		{[]int{0, 1, most, math.MaxInt}, []int{0}},
		{[]int{1, 2, most, math.MaxInt}, []int{1}},
		{[]int{most, most + 1, math.MaxInt}, []int{most}},
		{[]int{0, 1, most - 1, most, math.MaxInt - 1}, []int{most + 1, 2 * most, 1 << 40, math.MaxInt}},
	} {
		for _, i := range c.places {
			for _, n := range c.numbers {
				for length := range 70 {
					proof := row(length)
					if merkle.Check(root, l[0], i, n, proof) || merkle.Check(api.Hash{}, api.Hash{}, i, n, proof) {
						t.Errorf("Check of %d of %d with %d parts: true", i, n, length)
					}
				}
			}
		}
	}
}

// P5.2: a row of 65536 leaves has proofs; one of 65537 has none, not even one that leads
// to the root that it would have.
func TestCheckAtMost(t *testing.T) {
	leaf := api.Hash{9}
	below := row(16)
	at := digest('l', leaf)
	for _, other := range below {
		at = digest('m', at, other)
	}
	if !merkle.Check(at, leaf, 0, most, below) {
		t.Error("Check of 0 of 65536: false")
	}
	last := digest('l', api.Hash{8})
	above := digest('m', at, last)
	if merkle.Check(above, leaf, 0, most+1, append(below, last)) {
		t.Error("Check of 0 of 65537: true")
	}
	if merkle.Check(above, api.Hash{8}, most, most+1, []api.Hash{at}) {
		t.Error("Check of 65536 of 65537: true")
	}
}

// P5.2: a proof of another length is none, even where what is left of it would lead to
// the root.
func TestCheckLength(t *testing.T) {
	for n := 1; n <= 33; n++ {
		l := row(n)
		root := merkle.Root(l)
		for i := range n {
			proof, _ := merkle.Prove(l, i)
			for _, other := range []api.Hash{{}, root, l[i], {1}} {
				longer := append(slices.Clone(proof), other)
				if merkle.Check(root, l[i], i, n, longer) || merkle.Check(root, l[i], i, n, append([]api.Hash{other}, proof...)) {
					t.Errorf("Check of %d of %d with a part more: true", i, n)
				}
			}
			for k := range proof {
				if merkle.Check(root, l[i], i, n, slices.Delete(slices.Clone(proof), k, k+1)) {
					t.Errorf("Check of %d of %d without part %d: true", i, n, k)
				}
			}
			if len(proof) > 0 && merkle.Check(root, l[i], i, n, nil) {
				t.Errorf("Check of %d of %d without a proof: true", i, n)
			}
			if merkle.Check(root, l[i], i, n, append(slices.Clone(proof), row(1<<10)...)) {
				t.Errorf("Check of %d of %d with a thousand parts more: true", i, n)
			}
		}
	}
}

// P5.2: the last of a row of five stands one step below its top: a proof as deep as that
// of the others is none of it, and the other way round.
func TestCheckUnevenDepth(t *testing.T) {
	l := row(5)
	root := merkle.Root(l)
	high, _ := merkle.Prove(l, 4)
	deep, _ := merkle.Prove(l, 0)
	if len(high) != 1 || len(deep) != 3 {
		t.Fatalf("Prove: %d and %d parts, want 1 and 3", len(high), len(deep))
	}
	node := digest('m', digest('l', l[0]), digest('l', l[1]))
	if merkle.Check(root, node, 0, 5, deep[1:]) || merkle.Check(root, l[0], 4, 5, deep) || merkle.Check(root, l[4], 0, 5, high) {
		t.Error("Check with a proof of another depth: true")
	}
}

// P5.2: one bit that is another in the root, the leaf or a part of the proof is seen.
func TestCheckBent(t *testing.T) {
	for _, n := range []int{1, 2, 3, 5, 8, 13, 16} {
		l := row(n)
		root := merkle.Root(l)
		for i := range n {
			proof, _ := merkle.Prove(l, i)
			for bit := range 64 {
				bend := func(h api.Hash) api.Hash {
					h[bit/8] ^= 1 << (bit % 8)
					return h
				}
				if merkle.Check(bend(root), l[i], i, n, proof) || merkle.Check(root, bend(l[i]), i, n, proof) {
					t.Errorf("Check of %d of %d with bit %d bent: true", i, n, bit)
				}
				for k := range proof {
					bent := slices.Clone(proof)
					bent[k] = bend(bent[k])
					if merkle.Check(root, l[i], i, n, bent) {
						t.Errorf("Check of %d of %d with bit %d of part %d bent: true", i, n, bit, k)
					}
				}
			}
		}
	}
}

// P5.2: the parts stand in order, the lowest first, and another leaf's proof is none.
func TestCheckOtherProof(t *testing.T) {
	l := row(13)
	root := merkle.Root(l)
	for i := range l {
		proof, _ := merkle.Prove(l, i)
		turned := slices.Clone(proof)
		slices.Reverse(turned)
		if len(proof) > 1 && merkle.Check(root, l[i], i, len(l), turned) {
			t.Errorf("Check of %d with its proof turned: true", i)
		}
		for j := range l {
			other, _ := merkle.Prove(l, j)
			if j != i && (merkle.Check(root, l[i], i, len(l), other) || merkle.Check(root, l[j], i, len(l), proof)) {
				t.Errorf("Check of %d with the proof, the leaf of %d: true", i, j)
			}
		}
		if merkle.Check(api.Hash{}, l[i], i, len(l), proof) || merkle.Check(root, api.Hash{}, i, len(l), proof) {
			t.Errorf("Check of %d with a zero root, a zero leaf: true", i)
		}
	}
}

// R4: lists that are handed in are not changed, nor is their spare room, and what is
// answered is not theirs.
func TestArgumentsStay(t *testing.T) {
	for _, n := range []int{0, 1, 2, 3, 5, 8, 21} {
		whole := row(n + 10)
		l := whole[:n]
		root := merkle.Root(l)
		for i := range n {
			proof, _ := merkle.Prove(l, i)
			kept := slices.Clone(proof)
			room := append(slices.Clone(proof), row(5)...)
			if !merkle.Check(root, l[i], i, n, room[:len(proof)]) || !slices.Equal(room[:len(proof)], kept) || !slices.Equal(room[len(proof):], row(5)) {
				t.Errorf("the proof of %d of %d is changed", i, n)
			}
			spare := proof[:cap(proof)]
			for k := range spare {
				spare[k] = api.Hash{255}
			}
			if again, _ := merkle.Prove(l, i); !slices.Equal(again, kept) {
				t.Errorf("the proof of %d of %d is kept", i, n)
			}
		}
		if !slices.Equal(whole, row(n+10)) {
			t.Errorf("the list of %d is changed", n)
		}
	}
}

// R5: an answer hangs on the arguments alone, whatever was asked ahead, wherever the list
// lies, and whatever becomes of it behind.
func TestAnswersStay(t *testing.T) {
	l := row(11)
	root := merkle.Root(l)
	proof, _ := merkle.Prove(l, 6)
	kept := slices.Clone(proof)
	merkle.Root(row(most + 1))
	merkle.Prove(row(4), 9)
	merkle.Check(root, l[0], 6, 11, proof)
	far := append(make([]api.Hash, 0, 1000), l...)
	again, ok := merkle.Prove(far, 6)
	if merkle.Root(far) != root || !ok || !slices.Equal(again, kept) || !merkle.Check(root, far[6], 6, 11, again) {
		t.Error("the same call answers something else")
	}
	clear(l)
	if !slices.Equal(proof, kept) {
		t.Error("a proof changes with its row")
	}
}
