package tx

import (
	"drawbridge/api"
	"drawbridge/wire"
)

// In so many bytes numbers stand.
const (
	kindWidth    = 1
	numberWidth  = 1 // of a list's items
	heightWidth  = 4
	amountWidth  = 7
	atWidth      = 1
	indexWidth   = 1
	sideWidth    = 1
	accountWidth = 2
	paramWidth   = 1
	epochWidth   = 4
	qualityWidth = 4
	keyWidth     = 1
	nonceWidth   = 1
)

// tape has fields behind one another. One is written from the fields that it is led over,
// another one is read into them: so their order is told once, for both, and what is read
// is written again to the same bytes.
type tape interface {
	num(n *int, width int)
	hash(h *api.Hash)
}

// writing only looks at the fields: those in lists are the caller's.
type writing struct{ to *wire.Writer }

func (w writing) num(n *int, width int) { w.to.Num(*n, width) }
func (w writing) hash(h *api.Hash)      { w.to.Hash(*h) }

// reading panics where the bytes end: wire.Read recovers.
type reading struct{ from *wire.Reader }

func (r reading) num(n *int, width int) { *n = r.from.Num(width) }
func (r reading) hash(h *api.Hash)      { *h = r.from.Hash() }

// fields leads over the kind, and the fields that it has. A kind that there is not has none.
func fields(on tape, t *api.Tx) {
	on.num(&t.Kind, kindWidth)
	switch t.Kind {
	case api.Coinbase:
		on.num(&t.Height, heightWidth)
		list(on, &t.Outs, out)
	case api.Pay:
		list(on, &t.Ins, in)
		list(on, &t.Outs, out)
		list(on, &t.Forwards, forward)
	case api.Create:
		params(on, &t.Params)
	case api.Certify:
		cert(on, &t.Cert)
	case api.Withdraw:
		claim(on, &t.Claim)
	}
}

// list leads over a list's number, and its items. The number is another one than the
// list's where it was read: the list is made then.
func list[T any](on tape, l *[]T, item func(tape, *T)) {
	n := len(*l)
	on.num(&n, numberWidth)
	if n != len(*l) {
		*l = make([]T, n)
	}
	for i := range *l {
		item(on, &(*l)[i])
	}
}

// hashes leads over as many as there are: their number is not told.
func hashes(on tape, l []api.Hash) {
	for i := range l {
		on.hash(&l[i])
	}
}

func out(on tape, o *api.Out) {
	on.hash(&o.To)
	on.num(&o.Amount, amountWidth)
}

func in(on tape, i *api.In) {
	on.hash(&i.From.Tx)
	on.num(&i.From.At, atWidth)
	on.hash(&i.Key)
	sig(on, &i.Sig)
}

func sig(on tape, s *api.Sig) {
	on.num(&s.Index, indexWidth)
	hashes(on, s.Open[:])
	hashes(on, s.Shut[:])
	hashes(on, s.Path[:])
}

func forward(on tape, f *api.Forward) {
	on.num(&f.Side, sideWidth)
	on.num(&f.Account, accountWidth)
	on.hash(&f.Owner)
	on.num(&f.Amount, amountWidth)
}

func params(on tape, p *api.Params) {
	on.num(&p.Length, paramWidth)
	on.num(&p.Window, paramWidth)
	on.num(&p.Need, paramWidth)
	list(on, &p.Keys, tape.hash)
}

func cert(on tape, c *api.Cert) {
	on.num(&c.Side, sideWidth)
	on.num(&c.Epoch, epochWidth)
	on.num(&c.Quality, qualityWidth)
	on.hash(&c.End)
	on.hash(&c.Root)
	list(on, &c.Outs, out)
	list(on, &c.Sigs, signed)
}

func signed(on tape, s *api.Signed) {
	on.num(&s.Key, keyWidth)
	sig(on, &s.Sig)
}

func claim(on tape, c *api.Claim) {
	on.num(&c.Side, sideWidth)
	on.num(&c.Account, accountWidth)
	on.hash(&c.State.Owner)
	on.num(&c.State.Amount, amountWidth)
	on.num(&c.State.Nonce, nonceWidth)
	hashes(on, c.Proof[:])
}
