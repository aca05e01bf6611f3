package lamport_test

import (
	"crypto/sha256"
	"encoding/hex"
	"math"
	"testing"

	"drawbridge/api"
	"drawbridge/lamport"
)

// half is what a signature has of a key: a hash for each bit that is signed.
type half = [api.Bits]api.Hash

// The signatures of the chapter.
var (
	_ func(seed api.Hash, index int) *lamport.Key    = lamport.Make
	_ func(*lamport.Key) api.Hash                    = (*lamport.Key).Public
	_ func(*lamport.Key, api.Hash) (open, shut half) = (*lamport.Key).Sign
	_ func(m api.Hash, open, shut half) api.Hash     = lamport.Public
)

var (
	zero api.Hash
	// seeds and indexes are those that keys are made of.
	seeds   = []api.Hash{{}, {1}, {7: 1}, {1, 2, 3, 4, 5, 6, 7, 8}, {128}, {255, 255, 255, 255, 255, 255, 255, 255}}
	indexes = []int{0, 1, 2, 7, 8, 127, 128, 255, 256, 257, 511, 1 << 16, 1 << 32, 1<<32 + 3, -1, -2, -256, math.MaxInt, math.MinInt, math.MinInt + 9}
)

// digest is the first eight bytes of the library's SHA-256 of the purpose and the parts,
// each with its length ahead.
func digest(purpose byte, parts ...[]byte) api.Hash {
	b := []byte{purpose}
	for _, p := range parts {
		b = append(b, byte(len(p)), byte(len(p)>>8), 0, 0)
		b = append(b, p...)
	}
	sum := sha256.Sum256(b)
	return api.Hash(sum[:8])
}

// model is a key as the chapter tells it: its secrets, their marks, all told apart by the
// bit's number and its value.
type model struct {
	secrets, marks [2]half
}

// modelOf is the key that the seed and the index's lowest byte make.
func modelOf(seed api.Hash, lowest byte) model {
	var m model
	for b := range 2 {
		for i := range api.Bits {
			secret := digest('s', seed[:], []byte{lowest, byte(i), byte(b), 0})
			m.secrets[b][i] = secret
			m.marks[b][i] = digest('p', secret[:])
		}
	}
	return m
}

// public is the digest of all marks, laid behind one another.
func (m model) public() api.Hash {
	all := make([]byte, 0, 2*8*api.Bits)
	for i := range api.Bits {
		all = append(all, m.marks[0][i][:]...)
		all = append(all, m.marks[1][i][:]...)
	}
	return digest('k', all)
}

// signed tells whether bit i of a message is set: of its bytes, the first has the lowest.
func signed(m api.Hash, i int) bool {
	n := 0
	for k, c := range m {
		n |= int(c) << (8 * k)
	}
	return n&(1<<i) != 0
}

// sign is what the model opens, and what it keeps shut.
func (m model) sign(message api.Hash) (open, shut half) {
	for i := range api.Bits {
		if signed(message, i) {
			open[i], shut[i] = m.secrets[1][i], m.marks[0][i]
		} else {
			open[i], shut[i] = m.secrets[0][i], m.marks[1][i]
		}
	}
	return open, shut
}

// messages are those whose bits are at the edges: none, each alone, all but each, all.
func messages() []api.Hash {
	l := []api.Hash{{}, {255, 255}, {255}, {0, 255}, {0x55, 0x55}, {0xaa, 0xaa}, {0x12, 0x34, 5, 6, 7, 8, 9, 10}, {2: 255}, {0, 0, 255, 255, 255, 255, 255, 255}, {255, 255, 255, 255, 255, 255, 255, 255}}
	for i := range 64 {
		one, but := api.Hash{}, api.Hash{255, 255, 255, 255, 255, 255, 255, 255}
		one[i/8] = 1 << (i % 8)
		but[i/8] ^= 1 << (i % 8)
		l = append(l, one, but)
	}
	return l
}

// flip is a hash with one bit changed.
func flip(h api.Hash, i int) api.Hash {
	h[i/8] ^= 1 << (i % 8)
	return h
}

// text is a hash in base 16.
func text(h api.Hash) string { return hex.EncodeToString(h[:]) }

// The chapter's example: of the zero message the secrets of b 0 are open.
func TestExample(t *testing.T) {
	for _, seed := range seeds {
		m := modelOf(seed, 3)
		open, shut := lamport.Make(seed, 3).Sign(zero)
		if open != m.secrets[0] || shut != m.marks[1] {
			t.Errorf("seed %x: of the zero message %x, %x is signed", seed, open, shut)
		}
	}
}

// P7.1, P7.2: keys that were reckoned by another program, and some of what they sign.
func TestKnown(t *testing.T) {
	message := api.Hash{0x02, 0x80}
	for _, c := range []struct {
		seed       api.Hash
		index      int
		public     string
		open, shut [4]string
	}{
		{api.Hash{}, 0, "079484da8cfe9b1b",
			[4]string{"1af45c8da415be3b", "c52aabeb8053d8e8", "38faea8d216a284e", "97223c73d55d8336"},
			[4]string{"89e270a5dcc267eb", "c84f409d13a6fb6d", "c3b3b00b76594f34", "837f79bcde2060d6"}},
		{api.Hash{1, 2, 3, 4, 5, 6, 7, 8}, 5, "737722c964b0a6f5",
			[4]string{"94d2efc9afbdff1d", "fbbf5456ee67628f", "eafe9038c58fe671", "21d8ca18b5afe803"},
			[4]string{"610770999f70eea9", "69c4f09866e3582c", "0da1f2d08eb1c0de", "3dec2175ba3c6e8c"}},
		{api.Hash{255, 255, 255, 255, 255, 255, 255, 255}, 255, "8efcbacce95b5afd",
			[4]string{"dac0913a73c6e4cf", "1947df9911502c79", "993b7993ac3cdcf0", "3279c7a7401394f8"},
			[4]string{"e543de4abda0f8be", "e69720cec78ee732", "884a212a29e0b162", "b3aa250bb1a0c821"}},
	} {
		k := lamport.Make(c.seed, c.index)
		if got := text(k.Public()); got != c.public {
			t.Errorf("Make(%x, %d): Public %s, want %s", c.seed, c.index, got, c.public)
		}
		open, shut := k.Sign(message)
		for n, i := range []int{0, 1, 8, 15} {
			if text(open[i]) != c.open[n] || text(shut[i]) != c.shut[n] {
				t.Errorf("Make(%x, %d): bit %d is signed by %x, %x", c.seed, c.index, i, open[i], shut[i])
			}
		}
		if got := text(lamport.Public(message, open, shut)); got != c.public {
			t.Errorf("Public of what %x, %d signed: %s, want %s", c.seed, c.index, got, c.public)
		}
	}
	if got := text(lamport.Public(message, half{}, half{})); got != "874261611a193829" {
		t.Errorf("Public of noughts: %s", got)
	}
}

// P7.1: Public at each seed and index, of which the lowest byte alone counts.
func TestMake(t *testing.T) {
	for _, seed := range seeds {
		for _, index := range indexes {
			k := lamport.Make(seed, index)
			if k == nil {
				t.Fatalf("Make(%x, %d): nil", seed, index)
			}
			m := modelOf(seed, byte(index&255))
			if got, want := k.Public(), m.public(); got != want {
				t.Errorf("Make(%x, %d): Public %x, want %x", seed, index, got, want)
			}
			message := api.Hash{byte(index), 0xc5}
			open, shut := k.Sign(message)
			if wantOpen, wantShut := m.sign(message); open != wantOpen || shut != wantShut {
				t.Errorf("Make(%x, %d): Sign %x, %x, want %x, %x", seed, index, open, shut, wantOpen, wantShut)
			}
			if got := lamport.Public(message, open, shut); got != k.Public() {
				t.Errorf("Make(%x, %d): Public of what is signed right %x, want %x", seed, index, got, k.Public())
			}
		}
	}
}

// P7.1: no two of a seed's 256 keys are the same, nor are those of other seeds.
func TestKeysApart(t *testing.T) {
	seen := map[api.Hash]int{}
	see := func(h api.Hash) {
		t.Helper()
		if other, there := seen[h]; there || h == zero {
			t.Errorf("key %d is zero, or that of number %d", len(seen), other)
		}
		seen[h] = len(seen)
	}
	seed := api.Hash{9, 8, 7}
	for index := range 256 {
		see(lamport.Make(seed, index).Public())
		if lamport.Make(seed, index+256).Public() != lamport.Make(seed, index-512).Public() {
			t.Errorf("of an index more than the lowest byte %d counts", index)
		}
	}
	for i := range 64 {
		see(lamport.Make(flip(seed, i), 0).Public())
	}
}

// P7.1: no two secrets of some keys are the same, and none is a mark.
func TestSecretsApart(t *testing.T) {
	seen := map[api.Hash]bool{}
	see := func(l half) {
		t.Helper()
		for i, h := range l {
			if seen[h] {
				t.Errorf("hash %d, %x, is there already", i, h)
			}
			seen[h] = true
		}
	}
	for index := range 16 {
		k := lamport.Make(api.Hash{5}, index)
		for _, message := range []api.Hash{{}, {255, 255}} {
			open, shut := k.Sign(message)
			see(open)
			see(shut)
		}
	}
}

// P7.1: bit by bit, at the edges of the message's bytes.
func TestSign(t *testing.T) {
	for _, seed := range seeds {
		k, m := lamport.Make(seed, 6), modelOf(seed, 6)
		for _, message := range messages() {
			open, shut := k.Sign(message)
			if wantOpen, wantShut := m.sign(message); open != wantOpen || shut != wantShut {
				t.Errorf("seed %x, message %x: %x, %x, want %x, %x", seed, message, open, shut, wantOpen, wantShut)
			}
		}
	}
}

// P7.1, P7.2: each of the messages that differ where it is signed, and the key of each.
func TestAllMessages(t *testing.T) {
	step := 1
	if testing.Short() {
		step = 97
	}
	seed := api.Hash{4, 4}
	k, m := lamport.Make(seed, 1), modelOf(seed, 1)
	public := k.Public()
	for n := 0; n < 1<<api.Bits; n += step {
		message := api.Hash{byte(n), byte(n >> 8), byte(n * 3), 7: byte(n * 5)}
		open, shut := k.Sign(message)
		wantOpen, wantShut := m.sign(message)
		if open != wantOpen || shut != wantShut {
			t.Fatalf("message %x: %x, %x", message, open, shut)
		}
		if got := lamport.Public(message, open, shut); got != public {
			t.Fatalf("message %x: Public %x, want %x", message, got, public)
		}
	}
}

// P7.1: a signature opens half of a key: of each bit one secret, and of the other one its
// mark alone. Two that differ everywhere open all.
func TestHalf(t *testing.T) {
	for _, message := range messages() {
		k, m := lamport.Make(api.Hash{3}, 2), modelOf(api.Hash{3}, 2)
		other := message
		for i := range other {
			other[i] = ^other[i]
		}
		open, shut := k.Sign(message)
		rest, marks := k.Sign(other)
		for i := range api.Bits {
			secrets := [2]api.Hash{m.secrets[0][i], m.secrets[1][i]}
			if [2]api.Hash{open[i], rest[i]} != secrets && [2]api.Hash{rest[i], open[i]} != secrets {
				t.Errorf("message %x: bit %d doesn't open one secret of two", message, i)
			}
			if shut[i] != digest('p', rest[i][:]) || marks[i] != digest('p', open[i][:]) {
				t.Errorf("message %x: bit %d has another mark than that of what is shut", message, i)
			}
		}
		for _, h := range shut {
			for i := range api.Bits {
				if h == m.secrets[0][i] || h == m.secrets[1][i] {
					t.Errorf("message %x: the secret %x of what is shut is told", message, h)
				}
			}
		}
	}
}

// P7.1, P7.2: Bits of a message are signed: what stands behind them doesn't count.
func TestBitsBehind(t *testing.T) {
	k := lamport.Make(api.Hash{1}, 0)
	message := api.Hash{0x3c, 0x91}
	open, shut := k.Sign(message)
	for i := range 64 {
		other := flip(message, i)
		o, s := k.Sign(other)
		same := o == open && s == shut
		taken := lamport.Public(other, open, shut) == k.Public()
		if want := i >= api.Bits; same != want || taken != want {
			t.Errorf("bit %d: signed alike %v, taken %v, want %v", i, same, taken, want)
		}
	}
}

// P7.2: whatever is handed in, the key is that of the marks in their order.
func TestPublic(t *testing.T) {
	halves := []half{{}, {{1}}, {api.Bits - 1: {7: 1}}}
	var many half
	for i := range many {
		many[i] = api.Hash{byte(i), byte(i * 7), byte(255 - i), 1}
	}
	for _, seed := range seeds {
		m := modelOf(seed, 0)
		halves = append(halves, m.secrets[0], m.marks[1])
	}
	halves = append(halves, many)
	for _, message := range messages() {
		for _, open := range halves {
			for _, shut := range halves {
				var m model
				for i := range api.Bits {
					m.marks[0][i], m.marks[1][i] = digest('p', open[i][:]), shut[i]
					if signed(message, i) {
						m.marks[0][i], m.marks[1][i] = m.marks[1][i], m.marks[0][i]
					}
				}
				if got, want := lamport.Public(message, open, shut), m.public(); got != want {
					t.Errorf("Public(%x, %x, %x): %x, want %x", message, open, shut, got, want)
				}
			}
		}
	}
}

// P7.2: one bit that is another in what is open or shut leads to another key.
func TestBent(t *testing.T) {
	for _, message := range []api.Hash{{}, {255, 255}, {0x12, 0x34}} {
		k := lamport.Make(api.Hash{8}, 7)
		public := k.Public()
		open, shut := k.Sign(message)
		for i := range api.Bits {
			for bit := range 64 {
				bent, other := open, shut
				bent[i], other[i] = flip(open[i], bit), flip(shut[i], bit)
				if lamport.Public(message, bent, shut) == public || lamport.Public(message, open, other) == public {
					t.Errorf("message %x: bit %d of hash %d is bent, and it is taken", message, bit, i)
				}
			}
		}
	}
}

// P7.2: what was signed wrong, for another message, or by another key, is not the key's.
func TestWrong(t *testing.T) {
	seed, message := api.Hash{2, 2}, api.Hash{0x5a, 0x0f}
	k, m := lamport.Make(seed, 4), modelOf(seed, 4)
	public := k.Public()
	open, shut := k.Sign(message)
	other, _ := lamport.Make(seed, 5).Sign(message)
	stranger, _ := lamport.Make(flip(seed, 0), 4).Sign(message)
	opened := shut
	for i := range opened {
		opened[i] = m.secrets[1][i]
		if signed(message, i) {
			opened[i] = m.secrets[0][i]
		}
	}
	for what, h := range map[string]api.Hash{
		"nothing":             lamport.Public(message, half{}, half{}),
		"nothing open":        lamport.Public(message, half{}, shut),
		"nothing shut":        lamport.Public(message, open, half{}),
		"turned":              lamport.Public(message, shut, open),
		"another index":       lamport.Public(message, other, shut),
		"another seed":        lamport.Public(message, stranger, shut),
		"secrets for marks":   lamport.Public(message, open, opened),
		"all open are of b 0": lamport.Public(message, m.secrets[0], shut),
		"the other secrets":   lamport.Public(message, opened, shut),
		"the zero message":    lamport.Public(zero, open, shut),
	} {
		if h == public {
			t.Errorf("%s: it is taken", what)
		}
	}
	for i := range api.Bits - 1 {
		a, b := open, shut
		a[i], a[i+1] = a[i+1], a[i]
		b[i], b[i+1] = b[i+1], b[i]
		if lamport.Public(message, a, shut) == public || lamport.Public(message, open, b) == public || lamport.Public(message, a, b) == public {
			t.Errorf("hashes %d and %d are changed for each other, and it is taken", i, i+1)
		}
	}
}

// R7: a nil Key answers zero values. R1: one that Make didn't make doesn't panic.
func TestNil(t *testing.T) {
	var k *lamport.Key
	if k.Public() != zero {
		t.Error("Public of nil: not zero")
	}
	for _, message := range messages() {
		if open, shut := k.Sign(message); open != (half{}) || shut != (half{}) {
			t.Errorf("Sign(%x) of nil: %x, %x", message, open, shut)
		}
		var other lamport.Key
		other.Public()
		other.Sign(message)
	}
}

// R3, R5: a key doesn't change as it signs, nor with what becomes of its answers, nor as
// other keys are made: it answers again as it did.
func TestAnswersStay(t *testing.T) {
	seed, message := api.Hash{6, 5, 4}, api.Hash{0x77, 0x80, 1}
	k := lamport.Make(seed, 1)
	public := k.Public()
	open, shut := k.Sign(message)
	for _, m := range messages() {
		o, s := k.Sign(m)
		clear(o[:])
		clear(s[:])
		lamport.Make(m, 1).Sign(message)
		lamport.Public(m, o, s)
	}
	for _, again := range []*lamport.Key{k, lamport.Make(seed, 1)} {
		if o, s := again.Sign(message); o != open || s != shut || again.Public() != public {
			t.Error("the same call answers something else")
		}
	}
	copied := *k
	if o, s := copied.Sign(message); o != open || s != shut || copied.Public() != public {
		t.Error("a copy of a key is another key")
	}
}
