package tx_test

import (
	"crypto/sha256"
	"math"
	"math/rand"
	"slices"

	"drawbridge/api"
	"drawbridge/tx"
)

// The signatures of the chapter.
var (
	_ func(t api.Tx) bool                               = tx.May
	_ func(t api.Tx) ([]byte, api.Errno)                = tx.Encode
	_ func(b []byte) (api.Tx, api.Errno)                = tx.Decode
	_ func(t api.Tx) (api.Hash, bool)                   = tx.ID
	_ func(t api.Tx, i int) (api.Hash, bool)            = tx.Message
	_ func(c api.Cert) (api.Hash, bool)                 = tx.CertMessage
	_ func(a, b api.Tx) bool                            = tx.Same
	_ func(s, e int, end api.Hash) (payoutsTx api.Hash) = tx.Paid
)

// The limits as numbers.
const (
	mostIns, mostOuts, mostKeys, mostSides = 8, 16, 5, 8
	mostBlocks, mostPlaces                 = 400, 65536
	mostMoney, mostQuality                 = 1125899906842624, 2147483647
	mostBytes                              = 131072
)

var (
	zero  api.Hash
	kinds = []int{api.Coinbase, api.Pay, api.Create, api.Certify, api.Withdraw}
	// far are numbers at the ends, and such as have the lowest bytes of small ones.
	far = []int{-1, -2, -255, -256, 1 << 16, 1<<16 + 1, 1<<32 + 1, 1<<32 + 2, -1 << 32, 1 - 1<<32, 1<<56 + 1, math.MaxInt, math.MinInt, math.MinInt + 1}
)

// h is a hash that tells its number, and is not zero.
func h(n int) api.Hash { return api.Hash{byte(n), byte(n >> 8), 3, 4, 5, 6, 7, 8} }

// hashesInto fills a row with hashes, no two the same.
func hashesInto(l []api.Hash, from int) {
	for i := range l {
		l[i] = h(from + i)
	}
}

// sig tells its number in each part.
func sig(n int) api.Sig {
	s := api.Sig{Index: n}
	hashesInto(s.Open[:], 1000*n)
	hashesInto(s.Shut[:], 1000*n+100)
	hashesInto(s.Path[:], 1000*n+200)
	return s
}

func ins(n int) []api.In {
	var l []api.In
	for i := range n {
		l = append(l, api.In{From: api.Point{Tx: h(i / 2), At: i % 2}, Key: h(500 + i), Sig: sig(i)})
	}
	return l
}

func outs(n int) []api.Out {
	var l []api.Out
	for i := range n {
		l = append(l, api.Out{To: h(600 + i), Amount: 1 + 1000003*i})
	}
	return l
}

func forwards(n int) []api.Forward {
	var l []api.Forward
	for i := range n {
		l = append(l, api.Forward{Side: i % mostSides, Account: 4097 * i % mostPlaces, Owner: h(700 + i), Amount: 1 + 1<<20*i})
	}
	return l
}

func params(n int) api.Params {
	p := api.Params{Length: 64, Window: 3, Need: n, Keys: make([]api.Hash, n)}
	hashesInto(p.Keys, 800)
	return p
}

func cert(paid, sigs int) api.Cert {
	c := api.Cert{Side: 7, Epoch: 258, Quality: 0x04030201, End: h(900), Root: h(901), Outs: outs(paid)}
	for i := range sigs {
		c.Sigs = append(c.Sigs, api.Signed{Key: i % mostKeys, Sig: sig(10 + i)})
	}
	return c
}

func claim() api.Claim {
	c := api.Claim{Side: 3, Account: 0x1234, State: api.Account{Owner: h(950), Amount: 0x1020304050607, Nonce: 9}}
	hashesInto(c.Proof[:], 1100)
	return c
}

// of is a transaction of that kind that may be, with two of each list, new at each call.
func of(kind int) api.Tx {
	switch kind {
	case api.Coinbase:
		return api.Tx{Kind: kind, Height: 258, Outs: outs(2)}
	case api.Pay:
		return api.Tx{Kind: kind, Ins: ins(2), Outs: outs(2), Forwards: forwards(2)}
	case api.Create:
		return api.Tx{Kind: kind, Params: params(2)}
	case api.Certify:
		return api.Tx{Kind: kind, Cert: cert(2, 2)}
	}
	return api.Tx{Kind: kind, Claim: claim()}
}

// greatest is one of that kind, with as many of each list as may be.
func greatest(kind int) api.Tx {
	t := of(kind)
	switch kind {
	case api.Coinbase:
		t.Outs = outs(mostOuts)
	case api.Pay:
		t.Ins, t.Outs, t.Forwards = ins(mostIns), outs(mostOuts), forwards(mostOuts)
	case api.Create:
		t.Params = params(mostKeys)
	case api.Certify:
		t.Cert = cert(mostOuts, mostKeys)
	}
	return t
}

// random is one of that kind that may be.
func random(r *rand.Rand, kind int) api.Tx {
	t := api.Tx{Kind: kind}
	switch kind {
	case api.Coinbase:
		t.Height, t.Outs = 1+r.Intn(mostBlocks), outs(r.Intn(mostOuts+1))
	case api.Pay:
		t.Ins, t.Outs, t.Forwards = ins(1+r.Intn(mostIns)), outs(r.Intn(mostOuts+1)), forwards(1+r.Intn(mostOuts))
	case api.Create:
		t.Params = params(1 + r.Intn(mostKeys))
	case api.Certify:
		t.Cert = cert(r.Intn(mostOuts+1), 1+r.Intn(mostKeys))
		t.Cert.Epoch, t.Cert.Quality = r.Intn(mostBlocks+1), r.Intn(mostQuality)+1
	case api.Withdraw:
		t.Claim = claim()
		t.Claim.Account, t.Claim.State.Amount = r.Intn(mostPlaces), 1+r.Intn(mostMoney)
	}
	return t
}

// sheet is bytes as the chapter lays them, written with nothing asked: of numbers that
// are too great the lowest bytes, of lists that are too long their number's lowest byte.
type sheet []byte

func (b *sheet) num(n, width int) {
	for range width {
		*b = append(*b, byte(n))
		n >>= 8
	}
}

func (b *sheet) hashes(l ...api.Hash) {
	for _, x := range l {
		*b = append(*b, x[:]...)
	}
}

func (b *sheet) sig(s api.Sig) {
	b.num(s.Index, 1)
	b.hashes(s.Open[:]...)
	b.hashes(s.Shut[:]...)
	b.hashes(s.Path[:]...)
}

func (b *sheet) outs(l []api.Out) {
	b.num(len(l), 1)
	for _, o := range l {
		b.hashes(o.To)
		b.num(o.Amount, 7)
	}
}

func (b *sheet) pay(t api.Tx) {
	b.num(len(t.Ins), 1)
	for _, in := range t.Ins {
		b.hashes(in.From.Tx)
		b.num(in.From.At, 1)
		b.hashes(in.Key)
		b.sig(in.Sig)
	}
	b.outs(t.Outs)
	b.num(len(t.Forwards), 1)
	for _, f := range t.Forwards {
		b.num(f.Side, 1)
		b.num(f.Account, 2)
		b.hashes(f.Owner)
		b.num(f.Amount, 7)
	}
}

func (b *sheet) cert(c api.Cert) {
	b.num(c.Side, 1)
	b.num(c.Epoch, 4)
	b.num(c.Quality, 4)
	b.hashes(c.End, c.Root)
	b.outs(c.Outs)
	b.num(len(c.Sigs), 1)
	for _, s := range c.Sigs {
		b.num(s.Key, 1)
		b.sig(s.Sig)
	}
}

// bytesOf is a transaction as the chapter lays it, whether it may be or not.
func bytesOf(t api.Tx) []byte {
	b := sheet{byte(t.Kind)}
	switch t.Kind {
	case api.Coinbase:
		b.num(t.Height, 4)
		b.outs(t.Outs)
	case api.Pay:
		b.pay(t)
	case api.Create:
		b.num(t.Params.Length, 1)
		b.num(t.Params.Window, 1)
		b.num(t.Params.Need, 1)
		b.num(len(t.Params.Keys), 1)
		b.hashes(t.Params.Keys...)
	case api.Certify:
		b.cert(t.Cert)
	case api.Withdraw:
		c := t.Claim
		b.num(c.Side, 1)
		b.num(c.Account, 2)
		b.hashes(c.State.Owner)
		b.num(c.State.Amount, 7)
		b.num(c.State.Nonce, 1)
		b.hashes(c.Proof[:]...)
	}
	return b
}

// digest is the first eight bytes of the library's SHA-256 of the purpose and the parts,
// each with its length ahead.
func digest(purpose byte, parts ...[]byte) api.Hash {
	b := sheet{purpose}
	for _, p := range parts {
		b.num(len(p), 4)
		b = append(b, p...)
	}
	sum := sha256.Sum256(b)
	return api.Hash(sum[:8])
}

// twin is a transaction that shares no list with t; an empty list of it is nil.
func twin(t api.Tx) api.Tx {
	t.Ins, t.Outs, t.Forwards = list(t.Ins), list(t.Outs), list(t.Forwards)
	t.Params.Keys, t.Cert.Outs, t.Cert.Sigs = list(t.Params.Keys), list(t.Cert.Outs), list(t.Cert.Sigs)
	return t
}

func list[T any](l []T) []T {
	if len(l) == 0 {
		return nil
	}
	return slices.Clone(l)
}
