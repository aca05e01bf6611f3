package quorum_test

import (
	"cmp"
	"go/ast"
	"go/parser"
	"go/token"
	"maps"
	"math"
	"slices"
	"testing"

	"drawbridge/api"
	"drawbridge/keytree"
	"drawbridge/quorum"
)

// The signatures of the chapter.
var (
	_ func(p api.Params) bool                                      = quorum.May
	_ func(p api.Params, m api.Hash, l []api.Signed) bool          = quorum.Check
	_ func(p api.Params, m api.Hash, l []api.Signed) (howMany int) = quorum.Count
)

const (
	// mostKeys and longest are the limits, times how often a key signs, as numbers.
	mostKeys = 5
	longest  = 64
	times    = 8
)

var (
	zero    api.Hash
	message = api.Hash{0x5a, 0x0f, 3}
	other   = api.Hash{0xa5, 0xf0, 3}
	// trees are one more than a sidechain may have keys, no two the same.
	trees = []*keytree.Tree{keytree.New(api.Hash{'c'}), keytree.New(api.Hash{'c', 0, 1}), keytree.New(api.Hash{'c', 7, 2}), keytree.New(api.Hash{1}), keytree.New(api.Hash{7: 255}), keytree.New(zero)}
	// far are numbers at the ends, and such as have the lowest bytes of small ones.
	far = []int{-1, -2, -256, -255, 255, 256, 257, 258, 260, 1 << 16, 1<<16 + 1, 1 << 32, 1<<32 + 1, 1<<32 + 2, 1<<32 + 5, -1 << 32, 1 - 1<<32, math.MaxInt, math.MaxInt - 1, math.MinInt, math.MinInt + 1, math.MinInt + 2}
)

// rootsOf are the roots of the first n trees.
func rootsOf(n int) []api.Hash {
	var l []api.Hash
	for _, tree := range trees[:n] {
		l = append(l, tree.Root())
	}
	return l
}

// paramsOf may be where n is from 1 to mostKeys, and need from 1 to n.
func paramsOf(n, need int) api.Params {
	return api.Params{Length: 4, Window: 2, Need: need, Keys: rootsOf(n)}
}

// signed is what a key's tree signs with that index.
func signed(key, index int, m api.Hash) api.Signed {
	s, _ := trees[key].Sign(index, m)
	return api.Signed{Key: key, Sig: s}
}

// right is a key's signature of the message, wrong one of another message.
func right(key int) api.Signed { return signed(key, (key*3+1)%times, message) }
func wrong(key int) api.Signed { return signed(key, (key*3+1)%times, other) }

// as is a signature that is told to be another key's.
func as(s api.Signed, key int) api.Signed {
	s.Key = key
	return s
}

// bent is a key's signature of the message with something changed.
func bent(key int, change func(s *api.Sig)) api.Signed {
	s := right(key)
	change(&s.Sig)
	return s
}

// rights are the keys' signatures, in the order in which the keys are told.
func rights(keys ...int) []api.Signed {
	var l []api.Signed
	for _, key := range keys {
		l = append(l, right(key))
	}
	return l
}

// subset are the keys whose bits are set in a number, rising.
func subset(set int) []int {
	var l []int
	for key := range mostKeys {
		if set>>key&1 == 1 {
			l = append(l, key)
		}
	}
	return l
}

// counts tells where Count is another number.
func counts(t *testing.T, what string, p api.Params, l []api.Signed, want int) {
	t.Helper()
	if got := quorum.Count(p, message, l); got != want {
		t.Errorf("%s: Count %d, want %d", what, got, want)
	}
}

// checks tells where Check answers otherwise.
func checks(t *testing.T, what string, p api.Params, l []api.Signed, want bool) {
	t.Helper()
	if got := quorum.Check(p, message, l); got != want {
		t.Errorf("%s: Check %v, want %v", what, got, want)
	}
}

// The chapter's examples, and what stands next to them.
func TestExamples(t *testing.T) {
	p := paramsOf(3, 2)
	checks(t, "keys 0 and 2", p, rights(0, 2), true)
	checks(t, "keys 2 and 0", p, rights(2, 0), false)
	checks(t, "keys 0 and 0", p, rights(0, 0), false)
	checks(t, "key 0 alone", p, rights(0), false)
	checks(t, "all", p, rights(0, 1, 2), true)
	checks(t, "none", p, nil, false)
	checks(t, "none, a list", p, []api.Signed{}, false)
	counts(t, "keys 2 and 0", p, rights(2, 0), 2)
	counts(t, "keys 0 and 0", p, rights(0, 0), 1)
	counts(t, "none", p, nil, 0)
}

// The limits are the numbers that are written out here.
func TestLimits(t *testing.T) {
	if api.MaxKeys != mostKeys || api.MaxLength != longest || keytree.Times() != times || len(trees) != mostKeys+1 {
		t.Errorf("MaxKeys %d, MaxLength %d, Times %d, %d trees", api.MaxKeys, api.MaxLength, keytree.Times(), len(trees))
	}
}

// P9.1: how many keys there are, and how many must sign.
func TestMayNeed(t *testing.T) {
	for n := range len(trees) + 1 {
		for _, need := range append([]int{0, 1, 2, 3, 4, 5, 6, 7, 8}, far...) {
			want := n >= 1 && n <= 5 && need >= 1 && need <= n
			if got := quorum.May(paramsOf(n, need)); got != want {
				t.Errorf("%d keys, Need %d: May %v", n, need, got)
			}
		}
	}
	p := paramsOf(0, 1)
	for i := range 600 {
		p.Keys = append(p.Keys, api.Hash{1, byte(i), byte(i >> 8)})
		if got := quorum.May(p); got != (i < 5) {
			t.Errorf("%d keys: May %v", len(p.Keys), got)
		}
	}
	for _, p := range []api.Params{{}, {Length: 2, Window: 1}, {Length: 2, Window: 1, Need: 1}, {Length: 2, Window: 1, Keys: []api.Hash{}}} {
		if quorum.May(p) {
			t.Errorf("no keys: %v may be", p)
		}
	}
}

// P9.1: how long an epoch is, and its window.
func TestMayLength(t *testing.T) {
	numbers := slices.Clone(far)
	for n := range longest + 6 {
		numbers = append(numbers, n-2)
	}
	for _, length := range numbers {
		for _, window := range numbers {
			p := paramsOf(3, 2)
			p.Length, p.Window = length, window
			want := length >= 2 && length <= 64 && window >= 1 && window <= length
			if got := quorum.May(p); got != want {
				t.Errorf("Length %d, Window %d: May %v", length, window, got)
			}
		}
	}
}

// P9.1: wherever a key is zero it may not be; one byte that is not is enough.
func TestMayZero(t *testing.T) {
	for n := 1; n <= mostKeys; n++ {
		for i := range n {
			p := paramsOf(n, n)
			p.Keys[i] = zero
			if quorum.May(p) {
				t.Errorf("key %d of %d is zero, and may be", i, n)
			}
			for at := range zero {
				p.Keys[i] = zero
				p.Keys[i][at] = 1
				if !quorum.May(p) {
					t.Errorf("key %d of %d is not zero in byte %d, and may not be", i, n, at)
				}
			}
		}
	}
}

// P9.1: wherever two keys are the same they may not be; one bit that is another is enough.
func TestMayTwice(t *testing.T) {
	for n := 2; n <= mostKeys; n++ {
		for i := range n {
			for j := range i {
				p := paramsOf(n, 1)
				p.Keys[i] = p.Keys[j]
				if quorum.May(p) {
					t.Errorf("keys %d and %d of %d are one, and may be", j, i, n)
				}
				for bit := range 64 {
					p.Keys[i] = p.Keys[j]
					p.Keys[i][bit/8] ^= 1 << (bit % 8)
					if !quorum.May(p) {
						t.Errorf("keys %d and %d of %d differ in bit %d, and may not be", j, i, n, bit)
					}
				}
			}
		}
	}
}

// P9.1: of each number of keys whoever signs, whatever is needed: in order they are enough
// or too few; where two stand the other way round they are counted, and not taken.
func TestSubsets(t *testing.T) {
	for n := 1; n <= mostKeys; n++ {
		for set := range 1 << n {
			keys := subset(set)
			l := rights(keys...)
			for need := 1; need <= n; need++ {
				p := paramsOf(n, need)
				checks(t, "in order", p, l, len(keys) >= need)
				for i := range len(l) - 1 {
					l[i], l[i+1] = l[i+1], l[i]
					counts(t, "two turned", p, l, len(keys))
					checks(t, "two turned", p, l, false)
					l[i], l[i+1] = l[i+1], l[i]
				}
			}
			counts(t, "in order", paramsOf(n, 1), l, len(keys))
		}
	}
}

// P9.1: all rows of up to four signatures, right and wrong ones, in whatever order.
func TestRows(t *testing.T) {
	letters := []struct {
		name  string
		s     api.Signed
		right bool
	}{
		{"0", right(0), true},
		{"1", right(1), true},
		{"2", right(2), true},
		{"1 anew", signed(1, 7, message), true},
		{"0 wrong", wrong(0), false},
		{"2 wrong", wrong(2), false},
		{"0 as 1", as(right(0), 1), false},
		{"0 as -1", as(right(0), -1), false},
		{"2 as 3", as(right(2), 3), false},
	}
	var walk func(row string, l []api.Signed, seen map[int]bool, fits bool)
	walk = func(row string, l []api.Signed, seen map[int]bool, fits bool) {
		counts(t, row, paramsOf(3, 1), l, len(seen))
		for need := 1; need <= 3; need++ {
			checks(t, row, paramsOf(3, need), l, fits && len(l) >= need)
		}
		if len(l) == 4 {
			return
		}
		for _, c := range letters {
			now := maps.Clone(seen)
			if c.right {
				now[c.s.Key] = true
			}
			rises := len(l) == 0 || l[len(l)-1].Key < c.s.Key
			walk(row+", "+c.name, append(slices.Clone(l), c.s), now, fits && c.right && rises)
		}
	}
	walk("a row", nil, map[int]bool{}, true)
}

// P9.1: one wrong signature among enough right ones: Check is false, Count leaves it out.
func TestOneWrong(t *testing.T) {
	p := paramsOf(mostKeys, 1)
	for at := range mostKeys {
		for what, s := range map[string]api.Signed{
			"another message":   wrong(at),
			"nothing":           {Key: at},
			"the next key's":    as(right((at+1)%mostKeys), at),
			"a stranger's":      as(right(mostKeys), at),
			"another index":     bent(at, func(s *api.Sig) { s.Index ^= 1 }),
			"no index":          bent(at, func(s *api.Sig) { s.Index += times }),
			"an index below":    bent(at, func(s *api.Sig) { s.Index -= times }),
			"a bit of the path": bent(at, func(s *api.Sig) { s.Path[2][7] ^= 128 }),
			"a bit of open":     bent(at, func(s *api.Sig) { s.Open[15][0] ^= 1 }),
			"a bit of shut":     bent(at, func(s *api.Sig) { s.Shut[0][7] ^= 1 }),
		} {
			l := rights(0, 1, 2, 3, 4)
			l[at] = s
			counts(t, what, p, l, mostKeys-1)
			checks(t, what, p, l, false)
			checks(t, what+", left out", p, slices.Delete(l, at, at+1), true)
		}
	}
}

// P9.1: each key signs with each of its eight.
func TestIndexes(t *testing.T) {
	p := paramsOf(mostKeys, mostKeys)
	for turn := range times {
		var l []api.Signed
		for key := range mostKeys {
			l = append(l, signed(key, (key+turn)%times, message))
		}
		counts(t, "other indexes", p, l, mostKeys)
		checks(t, "other indexes", p, l, true)
	}
}

// P9.1: one key that signs with all of its eight is one, and never in order.
func TestOneKey(t *testing.T) {
	for key := range mostKeys {
		var l []api.Signed
		for index := range times {
			l = append(l, signed(key, index, message))
		}
		counts(t, "one key", paramsOf(mostKeys, 1), l, 1)
		for n := 2; n <= times; n++ {
			checks(t, "one key", paramsOf(mostKeys, 1), l[:n], false)
		}
		checks(t, "one key, once", paramsOf(mostKeys, 1), l[7:], true)
	}
}

// P9.1: a right signature counts, however many wrong ones of its key stand around it.
func TestWrongAround(t *testing.T) {
	p := paramsOf(3, 1)
	for at := range 40 {
		l := make([]api.Signed, 40)
		for i := range l {
			l[i] = wrong(1)
		}
		counts(t, "all wrong", p, l, 0)
		l[at] = right(1)
		counts(t, "one right", p, l, 1)
		checks(t, "one right", p, l, false)
	}
}

// P9.1, R1: a Key that p has not is none: neither counted nor taken, and no panic.
func TestNoSuchKey(t *testing.T) {
	for n := 1; n <= mostKeys; n++ {
		p := paramsOf(n, 1)
		for _, key := range append([]int{n, n + 1, n + 2, n + 256, n - 256}, far...) {
			for i := range n {
				s := as(right(i), key)
				counts(t, "no such key", p, []api.Signed{s}, 0)
				checks(t, "no such key", p, []api.Signed{s}, false)
				l := append(rights(subset(1<<n-1)...), s)
				counts(t, "no such key behind all", p, l, n)
				checks(t, "no such key behind all", p, l, false)
				slices.SortFunc(l, func(a, b api.Signed) int { return cmp.Compare(a.Key, b.Key) })
				checks(t, "no such key in order", p, l, false)
			}
		}
	}
}

// P9.1: who signed is asked of p's keys: with others at their places nothing is right.
func TestOtherKeys(t *testing.T) {
	p := paramsOf(3, 1)
	slices.Reverse(p.Keys)
	counts(t, "keys turned round", p, rights(0, 1, 2), 1)
	checks(t, "keys turned round", p, rights(0, 1, 2), false)
	checks(t, "keys turned round", p, rights(1), true)
	checks(t, "keys turned round", p, []api.Signed{as(right(2), 0), right(1), as(right(0), 2)}, true)
	for i := range 3 {
		for bit := range 64 {
			p := paramsOf(3, 1)
			p.Keys[i][bit/8] ^= 1 << (bit % 8)
			counts(t, "a bit of a key", p, rights(0, 1, 2), 2)
			checks(t, "a bit of a key", p, rights(0, 1, 2), false)
		}
	}
}

// P9.1: the message is the one that was signed, in the bits that are signed.
func TestMessage(t *testing.T) {
	p, l := paramsOf(3, 2), rights(0, 2)
	for bit := range 64 {
		m := message
		m[bit/8] ^= 1 << (bit % 8)
		same := bit >= api.Bits
		want := 0
		if same {
			want = 2
		}
		if quorum.Check(p, m, l) != same || quorum.Count(p, m, l) != want {
			t.Errorf("bit %d: Check %v, Count %d", bit, quorum.Check(p, m, l), quorum.Count(p, m, l))
		}
	}
}

// P9.1, R6: of what may not be nothing is taken, but its keys are counted: Count refuses none.
func TestMayNot(t *testing.T) {
	all := rights(0, 1, 2, 3, 4)
	for what, change := range map[string]func(p *api.Params){
		"nothing needed":         func(p *api.Params) { p.Need = 0 },
		"below nothing needed":   func(p *api.Params) { p.Need = -1 },
		"far below needed":       func(p *api.Params) { p.Need = math.MinInt },
		"more needed than keys":  func(p *api.Params) { p.Need = 6 },
		"no length":              func(p *api.Params) { p.Length, p.Window = 0, 0 },
		"a length of 1":          func(p *api.Params) { p.Length, p.Window = 1, 1 },
		"a length of 65":         func(p *api.Params) { p.Length = 65 },
		"no window":              func(p *api.Params) { p.Window = 0 },
		"a window above length":  func(p *api.Params) { p.Window = p.Length + 1 },
		"a window far below all": func(p *api.Params) { p.Window = math.MinInt },
	} {
		p := paramsOf(mostKeys, 1)
		checks(t, what+", not yet", p, all, true)
		change(&p)
		counts(t, what, p, all, mostKeys)
		checks(t, what, p, all, false)
		checks(t, what+", none", p, nil, false)
	}
	six := paramsOf(mostKeys+1, 1)
	counts(t, "six keys", six, rights(0, 1, 2, 3, 4, 5), 6)
	checks(t, "six keys", six, rights(0, 1, 2, 3, 4, 5), false)
	checks(t, "six keys", six, rights(0), false)
	two := paramsOf(3, 1)
	two.Keys[2] = two.Keys[0]
	counts(t, "one key at two places", two, []api.Signed{right(0), right(1), as(right(0), 2)}, 3)
	counts(t, "one key at two places, told once", two, rights(0, 1), 2)
	checks(t, "one key at two places", two, rights(0, 1), false)
	empty := paramsOf(3, 1)
	empty.Keys[1] = zero
	counts(t, "a zero key", empty, []api.Signed{right(0), {Key: 1}, right(2)}, 2)
	checks(t, "a zero key", empty, rights(0, 2), false)
	counts(t, "no keys", api.Params{}, all, 0)
	checks(t, "no keys", api.Params{}, all, false)
	checks(t, "no keys, none", api.Params{}, nil, false)
}

// R1, R6: long lists end, and a key counts at whatever place it stands.
func TestMany(t *testing.T) {
	p := paramsOf(0, 1)
	for i := range 1<<16 + 300 {
		p.Keys = append(p.Keys, api.Hash{1, byte(i), byte(i >> 8), byte(i >> 16)})
	}
	var l []api.Signed
	for i, place := range []int{1, 255, 256, 257, 1 << 16, 1<<16 + 257} {
		p.Keys[place] = trees[i].Root()
		l = append(l, as(right(i), place))
	}
	counts(t, "many keys", p, l, len(l))
	checks(t, "many keys", p, l, false)
	for i := range l {
		l[i].Key &= 0xff
	}
	counts(t, "their lowest bytes", p, l, 2)
	long := make([]api.Signed, 1<<14)
	for i := range long {
		long[i] = as(right(0), i)
	}
	counts(t, "a long list", paramsOf(3, 1), long, 1)
	checks(t, "a long list", paramsOf(3, 1), long, false)
}

// R4, R5: what is handed in stays as it was, spare room too, and is answered so again.
func TestStays(t *testing.T) {
	p := paramsOf(mostKeys, 3)
	p.Keys = append(p.Keys, api.Hash{9})[:mostKeys]
	l := append(rights(0, 1, 3, 4), right(2), wrong(0))
	keys, whole := slices.Clone(p.Keys[:mostKeys+1]), slices.Clone(l)
	for range 3 {
		checks(t, "four", p, l[:4], true)
		counts(t, "four", p, l[:4], 4)
		checks(t, "five, the last lower", p, l[:5], false)
		counts(t, "all", p, l, 5)
		if !quorum.May(p) {
			t.Error("May is false")
		}
		if !slices.Equal(p.Keys[:mostKeys+1], keys) || !slices.Equal(l, whole) {
			t.Error("a list that was handed in is changed")
		}
	}
}

// DOC.md, Ways: what is there stands in a map, here the keys that have signed. Its values
// are neither bools nor strings (LANGUAGE.md, rule 3).
func TestWays(t *testing.T) {
	file, err := parser.ParseFile(token.NewFileSet(), "quorum.go", nil, 0)
	if err != nil {
		t.Fatal(err)
	}
	found := 0
	ast.Inspect(file, func(n ast.Node) bool {
		m, ok := n.(*ast.MapType)
		if !ok {
			return true
		}
		found++
		if value, ok := m.Value.(*ast.Ident); ok && (value.Name == "bool" || value.Name == "string") {
			t.Errorf("a map has values of type %s", value.Name)
		}
		return true
	})
	if found == 0 {
		t.Error("there is no map")
	}
}
