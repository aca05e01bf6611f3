package cert_test

import (
	"slices"
	"testing"

	"drawbridge/api"
	"drawbridge/cert"
	"drawbridge/tx"
)

// P14.1: ErrQuorum for whoever signs, in whatever order, but enough of them that rise.
func TestWho(t *testing.T) {
	for need := 1; need <= 3; need++ {
		for _, who := range [][]int{{0}, {1}, {2}, {0, 1}, {0, 2}, {1, 2}, {0, 1, 2}, {0, 0}, {1, 0}, {2, 0}, {2, 1}, {1, 1, 2}, {0, 2, 1}, {2, 1, 0}, {0, 1, 1}, {3}, {4}, {0, 3}, {0, 1, 3}, {0, 1, 2, 3}, {0, 1, 2, 4}, {0, 1, 2, 3, 4}} {
			x := good()
			x.side.Params.Need, x.who = need, who
			wanted := errQuorum
			rise := slices.IsSorted(who) && len(slices.Compact(slices.Clone(who))) == len(who)
			if rise && len(who) >= need && who[len(who)-1] < 3 {
				wanted = ok
			}
			x.is(t, "who signs", wanted)
		}
	}
}

// bends are changes of each thing that is signed, and of each part of the signatures.
func bends() map[string]func(c *api.Cert) {
	return map[string]func(c *api.Cert){
		"Quality":      func(c *api.Cert) { c.Quality++ },
		"Root":         func(c *api.Cert) { c.Root[7] ^= 1 },
		"End":          func(c *api.Cert) { c.End[0] ^= 1 },
		"an Amount":    func(c *api.Cert) { c.Outs[1].Amount-- },
		"a To":         func(c *api.Cert) { c.Outs[0].To[3] ^= 128 },
		"the Outs":     func(c *api.Cert) { c.Outs[0], c.Outs[1] = c.Outs[1], c.Outs[0] },
		"an Out less":  func(c *api.Cert) { c.Outs = c.Outs[:1] },
		"an Out more":  func(c *api.Cert) { c.Outs = append(c.Outs, outs(1)...) },
		"no Out":       func(c *api.Cert) { c.Outs = nil },
		"an Open":      func(c *api.Cert) { c.Sigs[0].Sig.Open[3][1] ^= 1 },
		"a Shut":       func(c *api.Cert) { c.Sigs[1].Sig.Shut[15][7] ^= 1 },
		"a Path":       func(c *api.Cert) { c.Sigs[1].Sig.Path[2][0] ^= 1 },
		"an Index":     func(c *api.Cert) { c.Sigs[0].Sig.Index++ },
		"Index 8":      func(c *api.Cert) { c.Sigs[0].Sig.Index += times },
		"a Key":        func(c *api.Cert) { c.Sigs[1].Key = 1 },
		"one twice":    func(c *api.Cert) { c.Sigs[1] = c.Sigs[0] },
		"swapped":      func(c *api.Cert) { c.Sigs[0].Sig, c.Sigs[1].Sig = c.Sigs[1].Sig, c.Sigs[0].Sig },
		"turned round": func(c *api.Cert) { slices.Reverse(c.Sigs) },
		"one more":     func(c *api.Cert) { c.Sigs = append(c.Sigs, api.Signed{Key: 3, Sig: c.Sigs[0].Sig}) },
		"one less":     func(c *api.Cert) { c.Sigs = c.Sigs[:1] },
		"zero Sigs":    func(c *api.Cert) { c.Sigs = []api.Signed{{Key: 0}, {Key: 1}} },
	}
}

// P14.1: ErrQuorum where anything was changed behind the signatures, or of them.
func TestBent(t *testing.T) {
	for what, bend := range bends() {
		x := good()
		c := x.cert(t)
		before, _ := tx.CertMessage(c)
		bend(&c)
		x.end = c.End
		// A key signs two bytes of a message alone: another one of the same two would be signed.
		if m, _ := tx.CertMessage(c); m != before && m[0] == before[0] && m[1] == before[1] {
			t.Fatalf("%s: bent to a message of the same first bytes", what)
		}
		x.ask(t, what, c, errQuorum)
	}
}

// P14.1: ErrQuorum of what was signed for another epoch, or another sidechain.
func TestSignedForAnother(t *testing.T) {
	x := good()
	c := x.cert(t)
	c.Epoch, x.height = 2, 16
	x.ask(t, "another epoch", c, errQuorum)
	s := good().state(t)
	s.Set(1, good().side)
	c = good().cert(t)
	c.Side = 1
	if err := want(s, c, 12, c.End); err != errQuorum {
		t.Errorf("another side: the model says %v", err)
	}
	if err := cert.Take(s, c, 12, c.End); err != errQuorum {
		t.Errorf("another side: %v, want ErrQuorum", err)
	}
}

// P14.1: ErrQuorum where others signed: it is asked of the sidechain's own keys.
func TestOthers(t *testing.T) {
	x := good()
	x.ask(t, "others", sign(t, x.c, 5, 0, 2), errQuorum)
	x.ask(t, "one too far on", sign(t, x.c, 1, 0, 1), errQuorum)
	x.side.Params.Keys = keys(5, 3)
	x.ask(t, "the others' sidechain", sign(t, x.c, 5, 0, 2), ok)
	x.is(t, "no longer theirs", errQuorum)
	x.side.Params.Keys[1] = certifiers[0].Root()
	x.ask(t, "at another place", sign(t, x.c, 0, 0, 1), errQuorum)
}

// P14.1: ErrQuorum of a Side whose Params may not be, though all sign.
func TestParams(t *testing.T) {
	for what, bend := range map[string]func(p *api.Params){
		"Need 0":              func(p *api.Params) { p.Need = 0 },
		"Need below 0":        func(p *api.Params) { p.Need = -2 },
		"Need above the keys": func(p *api.Params) { p.Need = 4 },
		"no keys":             func(p *api.Params) { p.Keys = nil },
		"a key twice":         func(p *api.Params) { p.Keys[1] = p.Keys[0] },
		"a zero key":          func(p *api.Params) { p.Keys[1] = api.Hash{} },
		"six keys":            func(p *api.Params) { p.Keys = keys(0, mostKeys+1) },
		"Window above Length": func(p *api.Params) { p.Window = 5 },
	} {
		x := good()
		x.side.Params.Keys = slices.Clone(x.side.Params.Keys)
		bend(&x.side.Params)
		x.is(t, what, errQuorum)
	}
}

// P14.1, R6: the errors in their order: of whichever faults there are, the first is told.
func TestOrder(t *testing.T) {
	faults := []struct {
		err  api.Errno
		bend func(x *scene, c *api.Cert)
	}{
		{errForm, func(x *scene, c *api.Cert) { c.Outs[0].To = api.Hash{} }},
		{errSide, func(x *scene, c *api.Cert) { c.Side = sides }},
		{errCease, func(x *scene, c *api.Cert) { x.side.Ceased = true }},
		{errTime, func(x *scene, c *api.Cert) { x.height = 14 }},
		{errTime, func(x *scene, c *api.Cert) { x.end = api.Hash{} }},
		{errQuality, func(x *scene, c *api.Cert) { *x = x.waiting(7) }},
		{errMoney, func(x *scene, c *api.Cert) { x.side.Balance = 79 }},
		{errQuorum, func(x *scene, c *api.Cert) { c.Sigs[1].Sig.Path[0][0] ^= 1 }},
	}
	for set := range 1 << len(faults) {
		x := good()
		c := x.cert(t)
		wanted := ok
		for i := len(faults) - 1; i >= 0; i-- {
			if set>>i&1 == 1 {
				faults[i].bend(&x, &c)
				wanted = faults[i].err
			}
		}
		x.ask(t, "faults", c, wanted)
	}
}
