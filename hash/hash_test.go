package hash_test

import (
	"bytes"
	"crypto/sha256"
	"encoding/hex"
	"math"
	"slices"
	"strings"
	"testing"

	"drawbridge/api"
	"drawbridge/hash"
)

// The signatures of the chapter.
var (
	_ func([]byte) [32]byte                   = hash.Sum
	_ func(byte, ...[]byte) api.Hash          = hash.Of
	_ func(byte, api.Hash, api.Hash) api.Hash = hash.Two
	_ func(api.Hash) bool                     = hash.Zero
	_ func(a, b api.Hash) bool                = hash.Less
	_ func(api.Hash) string                   = hash.Text
	_ func(string) (api.Hash, bool)           = hash.Read
)

// count is n bytes that differ from their neighbours.
func count(n int) []byte {
	b := make([]byte, n)
	for i := range b {
		b[i] = byte(i*7 + i>>8 + 1)
	}
	return b
}

// hashOf is a hash of eight bytes that differ.
func hashOf(first byte) api.Hash {
	return api.Hash{first, first + 1, first + 2, first + 3, first + 4, first + 5, first + 6, first + 7}
}

// laid is what Of digests, laid out byte by byte.
func laid(purpose byte, parts ...[]byte) []byte {
	b := []byte{purpose}
	for _, p := range parts {
		n := len(p)
		b = append(b, byte(n), byte(n>>8), byte(n>>16), byte(n>>24))
		b = append(b, p...)
	}
	return b
}

// first is the first eight bytes of the library's SHA-256.
func first(b []byte) api.Hash {
	sum := sha256.Sum256(b)
	return api.Hash(sum[:8])
}

// The chapter's example, and others that FIPS 180-4's makers tell.
func TestExamples(t *testing.T) {
	for _, c := range []struct{ text, want string }{
		{"abc", "ba7816bf 8f01cfea 414140de 5dae2223 b00361a3 96177a9c b410ff61 f20015ad"},
		{"", "e3b0c442 98fc1c14 9afbf4c8 996fb924 27ae41e4 649b934c a495991b 7852b855"},
		{"abcdbcdecdefdefgefghfghighijhijkijkljklmklmnlmnomnopnopq", "248d6a61 d20638b8 e5c02693 0c3e6039 a33ce459 64ff2167 f6ecedd4 19db06c1"},
		{strings.Repeat("a", 1000000), "cdc76e5c 9914fb92 81a1c7e2 84d73e67 f1809a48 a497200e 046d39cc c7112cd0"},
	} {
		sum := hash.Sum([]byte(c.text))
		if got := hex.EncodeToString(sum[:]); got != strings.ReplaceAll(c.want, " ", "") {
			t.Errorf("Sum of %d bytes: %s, want %s", len(c.text), got, c.want)
		}
	}
}

// P4.1: Sum is SHA-256 at each length, where the last chunk ends early or late, and
// where there are many.
func TestSum(t *testing.T) {
	for n := range 700 {
		b := count(n)
		if hash.Sum(b) != sha256.Sum256(b) {
			t.Errorf("Sum of %d bytes is no SHA-256", n)
		}
	}
	for _, n := range []int{1 << 13, 1<<16 - 1, 1 << 16, 1<<16 + 55, 1<<16 + 56, api.MaxBytes, 1<<21 + 3} {
		b := count(n)
		if hash.Sum(b) != sha256.Sum256(b) {
			t.Errorf("Sum of %d bytes is no SHA-256", n)
		}
	}
	for _, c := range []byte{0, 1, 0x7f, 0x80, 0xff} {
		b := bytes.Repeat([]byte{c}, 130)
		if hash.Sum(b) != sha256.Sum256(b) {
			t.Errorf("Sum of 130 bytes %d is no SHA-256", c)
		}
	}
	if hash.Sum(nil) != hash.Sum([]byte{}) {
		t.Error("Sum: nil and an empty list differ")
	}
}

// P4.1: Of tells the purpose, and each part's length ahead of it.
func TestOf(t *testing.T) {
	lists := [][][]byte{
		nil,
		{},
		{nil},
		{{}},
		{nil, nil},
		{{0}},
		{{0}, {}},
		{{}, {0}},
		{{1, 2}, {3}},
		{{1}, {2, 3}},
		{{1, 2, 3}},
		{count(255), count(256), count(257)},
		{count(65535), count(65536)},
		{count(1 << 24), {9}},
		{count(50)}, {count(51)}, {count(58)}, {count(59)}, {count(60)},
	}
	for i, parts := range lists {
		for _, purpose := range []byte{0, 1, 2, 0x80, 0xff} {
			if got, want := hash.Of(purpose, parts...), first(laid(purpose, parts...)); got != want {
				t.Errorf("Of(%d, list %d): %x, want %x", purpose, i, got, want)
			}
		}
	}
	many := make([][]byte, 1000)
	for i := range many {
		many[i] = count(i % 130)
	}
	if got, want := hash.Of(7, many...), first(laid(7, many...)); got != want {
		t.Errorf("Of a thousand parts: %x, want %x", got, want)
	}
}

// P4.1: what is told is told apart: a purpose, a border and an empty part count.
func TestOfTellsApart(t *testing.T) {
	seen := map[api.Hash]string{}
	for what, h := range map[string]api.Hash{
		"no part":          hash.Of(1),
		"no part, other":   hash.Of(2),
		"empty":            hash.Of(1, nil),
		"empty twice":      hash.Of(1, nil, nil),
		"one part":         hash.Of(1, []byte("ab")),
		"parted":           hash.Of(1, []byte("a"), []byte("b")),
		"turned":           hash.Of(1, []byte("b"), []byte("a")),
		"empty at the end": hash.Of(1, []byte("ab"), nil),
		"empty ahead":      hash.Of(1, nil, []byte("ab")),
		"other purpose":    hash.Of(2, []byte("ab")),
		"its length in it": hash.Of(1, []byte("ab\x00\x00\x00\x00")),
	} {
		if other, there := seen[h]; there {
			t.Errorf("%s and %s have one hash", what, other)
		}
		seen[h] = what
	}
	if hash.Of(3, nil) != hash.Of(3, []byte{}) {
		t.Error("Of: nil and an empty list differ")
	}
}

// P4.1: the number of bits doesn't go into 32 of them where the bytes are 2^29.
func TestOfMuch(t *testing.T) {
	if testing.Short() {
		t.Skip("2^29 bytes take some seconds")
	}
	part := count(1 << 22)
	parts := slices.Repeat([][]byte{part}, 1<<7)
	all := sha256.New()
	all.Write([]byte{5})
	for range parts {
		all.Write(laid(0, part)[1:])
	}
	if got, want := hash.Of(5, parts...), api.Hash(all.Sum(nil)[:8]); got != want {
		t.Errorf("Of 2^29 bytes: %x, want %x", got, want)
	}
}

// P4.1: Two is Of the hashes, in their order.
func TestTwo(t *testing.T) {
	hashes := []api.Hash{{}, {1}, {7: 1}, hashOf(0), hashOf(8), hashOf(200), {255, 255, 255, 255, 255, 255, 255, 255}}
	for _, purpose := range []byte{0, 1, 255} {
		for _, a := range hashes {
			for _, b := range hashes {
				got := hash.Two(purpose, a, b)
				if want := first(laid(purpose, a[:], b[:])); got != want || got != hash.Of(purpose, a[:], b[:]) {
					t.Errorf("Two(%d, %x, %x): %x, want %x", purpose, a, b, got, want)
				}
				if a != b && got == hash.Two(purpose, b, a) {
					t.Errorf("Two(%d, %x, %x) is that of the turned", purpose, a, b)
				}
			}
		}
	}
}

// P4.2: Zero is true at eight noughts alone, whichever byte is none.
func TestZero(t *testing.T) {
	if !hash.Zero(api.Hash{}) {
		t.Error("Zero of eight noughts: false")
	}
	for i := range len(api.Hash{}) {
		for _, c := range []byte{1, 0x80, 0xff} {
			var h api.Hash
			h[i] = c
			if hash.Zero(h) {
				t.Errorf("Zero(%x): true", h)
			}
		}
	}
}

// P4.2: Less orders by the first byte that differs, bytes from 0 to 255.
func TestLess(t *testing.T) {
	rising := []api.Hash{
		{},
		{7: 1},
		{7: 255},
		{6: 1},
		{6: 1, 7: 255},
		{3: 5},
		{1: 1},
		{1: 128},
		{1},
		{1, 0, 0, 0, 0, 0, 0, 1},
		{127, 255},
		{128},
		{255},
		{255, 255, 255, 255, 255, 255, 255, 254},
		{255, 255, 255, 255, 255, 255, 255, 255},
	}
	for i, a := range rising {
		for j, b := range rising {
			if got := hash.Less(a, b); got != (i < j) {
				t.Errorf("Less(%x, %x): %v", a, b, got)
			}
		}
	}
}

// P4.2: Text has two small digits for each byte, the high one first; Read is its way back.
func TestText(t *testing.T) {
	for _, c := range []struct {
		h    api.Hash
		text string
	}{
		{api.Hash{}, "0000000000000000"},
		{api.Hash{1}, "0100000000000000"},
		{api.Hash{7: 1}, "0000000000000001"},
		{api.Hash{0x01, 0x23, 0x45, 0x67, 0x89, 0xab, 0xcd, 0xef}, "0123456789abcdef"},
		{api.Hash{0xfe, 0xdc, 0xba, 0x98, 0x76, 0x54, 0x32, 0x10}, "fedcba9876543210"},
		{api.Hash{255, 255, 255, 255, 255, 255, 255, 255}, "ffffffffffffffff"},
	} {
		if got := hash.Text(c.h); got != c.text {
			t.Errorf("Text(%x): %q, want %q", c.h, got, c.text)
		}
		if got, ok := hash.Read(c.text); got != c.h || !ok {
			t.Errorf("Read(%q): %x, %v, want %x", c.text, got, ok, c.h)
		}
	}
	for i := range 256 {
		h := api.Hash{byte(i), 0, 0, byte(i), 7: byte(255 - i)}
		text := hash.Text(h)
		if want := hex.EncodeToString(h[:]); text != want {
			t.Errorf("Text(%x): %q, want %q", h, text, want)
		}
		if back, ok := hash.Read(text); back != h || !ok {
			t.Errorf("Read(%q): %x, %v, want %x", text, back, ok, h)
		}
	}
}

// P4.2, R2: what is no hash's Text is none, and nothing of it is told.
func TestReadNone(t *testing.T) {
	texts := []string{
		"",
		"0",
		"012345678 abcdef",
		"0123456789abcde",
		"0123456789abcdef0",
		"0123456789abcdef01",
		"0123456789abcdef0123456789abcdef",
		"0123456789ABCDEF",
		"0123456789abcdeF",
		"A000000000000000",
		"0x23456789abcdef",
		" 123456789abcdef",
		"0123456789abcde ",
		"0123456789abcde\n",
		"+123456789abcdef",
		"-123456789abcdef",
		"01234567_9abcdef",
		"0123456789abcdéf",
		"0123456789abcdé",
		"\uff11\uff11\uff11\uff11\uff111",
		"\u0661\u0661\u0661\u0661\u0661\u0661\u0661\u0661",
		strings.Repeat("\x00", 16),
		strings.Repeat("\xff", 16),
		strings.Repeat("0", 1<<16),
	}
	for c := range 256 {
		if strings.IndexByte("0123456789abcdef", byte(c)) < 0 {
			texts = append(texts, "1"+string([]byte{byte(c)})+"23456789abcdef")
			texts = append(texts, "123456789abcde"+string([]byte{byte(c)})+"f")
		}
	}
	for _, text := range texts {
		if h, ok := hash.Read(text); ok || h != (api.Hash{}) {
			t.Errorf("Read(%q): %x, %v, want none", text, h, ok)
		}
	}
}

// P4.1: numbers in so many bytes are their lowest bytes, the lowest first.
func TestLow(t *testing.T) {
	for _, c := range []struct {
		n, width int
		want     []byte
	}{
		{0, 1, []byte{0}},
		{258, 1, []byte{2}},
		{258, 2, []byte{2, 1}},
		{258, 4, []byte{2, 1, 0, 0}},
		{0x01020304050607, 7, []byte{7, 6, 5, 4, 3, 2, 1}},
		{0x0102030405060708, 4, []byte{8, 7, 6, 5}},
		{1<<32 + 1, 4, []byte{1, 0, 0, 0}},
		{-1, 4, []byte{255, 255, 255, 255}},
		{-2, 9, []byte{254, 255, 255, 255, 255, 255, 255, 255, 255}},
		{math.MaxInt, 10, []byte{255, 255, 255, 255, 255, 255, 255, 127, 0, 0}},
		{math.MinInt, 8, []byte{0, 0, 0, 0, 0, 0, 0, 128}},
		{7, 0, nil},
		{7, -1, nil},
		{7, math.MinInt, nil},
	} {
		if got := hash.Low(c.n, c.width); !bytes.Equal(got, c.want) {
			t.Errorf("Low(%d, %d): %v, want %v", c.n, c.width, got, c.want)
		}
	}
}

// R4: lists that are handed in are not changed, nor is their spare room.
func TestArgumentsStay(t *testing.T) {
	for _, n := range []int{0, 1, 55, 56, 63, 64, 65, 200} {
		whole := count(n + 100)
		b := whole[:n]
		parts := make([][]byte, 2, 5)
		parts[0], parts[1] = b, b
		spare := parts[2:5]
		hash.Sum(b)
		hash.Of(1, b)
		hash.Of(1, parts...)
		if !bytes.Equal(whole, count(n+100)) {
			t.Errorf("the list of %d bytes is changed", n)
		}
		if len(parts[0]) != n || len(parts[1]) != n || spare[0] != nil || spare[1] != nil || spare[2] != nil {
			t.Errorf("the list of parts of %d bytes is changed", n)
		}
	}
}

// R5: an answer hangs on the arguments alone, whatever was asked ahead, and wherever
// the list lies.
func TestAnswersStay(t *testing.T) {
	b := count(300)
	sum, of, two := hash.Sum(b), hash.Of(3, b, b[:7]), hash.Two(3, hashOf(1), hashOf(2))
	hash.Sum(count(77))
	hash.Of(200, count(77))
	hash.Read("ffffffffffffffff")
	hash.Read("ffffffffffffffx0")
	far := append(make([]byte, 0, math.MaxUint16), b...)
	if hash.Sum(far) != sum || hash.Of(3, far, far[:7]) != of || hash.Two(3, hashOf(1), hashOf(2)) != two {
		t.Error("the same call answers something else")
	}
}
