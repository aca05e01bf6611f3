package payout_test

import (
	"math"
	"reflect"
	"testing"

	"drawbridge/api"
	"drawbridge/payout"
	"drawbridge/registry"
	"drawbridge/utxo"
)

// The signatures of the chapter.
var (
	_ func(s *registry.State, u *utxo.Set, height int) api.Errno = payout.End
	_ func(x registry.Side, height int) (int, bool)              = payout.Due
)

// The limits and the errors as numbers.
const (
	most      = 1125899906842624
	mostSides = 8
	longest   = 64
	lastBlock = 400

	ok       = api.Errno(0)
	errArg   = api.Errno(1)
	errMoney = api.Errno(5)
	errInput = api.Errno(6)
)

// far are numbers that a difference wraps round with, or nearly, and such as have the
// lowest bytes of small ones.
var far = []int{
	math.MinInt, math.MinInt + 1, math.MinInt + 2, math.MinInt + 63, math.MinInt + 64, math.MinInt + 65, math.MinInt + 500,
	-1 << 62, -1<<32 + 9, -1 << 32, -256, -9, -1, 1 << 32, 1<<32 + 9, 1<<32 + 13, 1 << 62, math.MaxInt - 500, math.MaxInt - 2, math.MaxInt - 1, math.MaxInt,
}

// sideOf is a bare Side of these numbers.
func sideOf(made, length, window int) registry.Side {
	return registry.Side{Params: api.Params{Length: length, Window: window}, Made: made}
}

// dues are the heights at which an epoch's window ends, and which one's; each epoch's end
// is counted on from the one ahead.
func dues(x registry.Side) map[int]int {
	at := map[int]int{}
	p := x.Params
	if x.Ceased || p.Length < 1 || p.Length > longest || p.Window < 0 || p.Window > longest || x.Made < 0 || x.Made > lastBlock {
		return at
	}
	end := x.Made
	for e := range lastBlock + 1 {
		end += p.Length
		at[end+p.Window] = e
	}
	return at
}

// asks holds Due against what is due at a height.
func asks(t *testing.T, x registry.Side, at map[int]int, height int) {
	t.Helper()
	wanted, there := at[height]
	if e, due := payout.Due(x, height); e != wanted || due != there {
		t.Errorf("made %d, Length %d, Window %d: Due at %d: %d, %v, want %d, %v", x.Made, x.Params.Length, x.Params.Window, height, e, due, wanted, there)
	}
}

// P15.1: Made 3, Length 4, Window 2: epoch 0 ends at 7, its window at 9; no other height
// up to the next one's is any epoch's.
func TestDue(t *testing.T) {
	x := sideOf(3, 4, 2)
	for height := -20; height < 24; height++ {
		wanted, there := 0, true
		switch height {
		case 9:
		case 13:
			wanted = 1
		case 17:
			wanted = 2
		case 21:
			wanted = 3
		default:
			there = false
		}
		if e, due := payout.Due(x, height); e != wanted || due != there {
			t.Errorf("Due at %d: %d, %v, want %d, %v", height, e, due, wanted, there)
		}
	}
}

// P15.1: Due at every height, of every form of Side that has epochs, those that
// quorum.May refuses, too.
func TestDueAll(t *testing.T) {
	for _, length := range []int{1, 2, 3, 4, 7, 32, longest - 1, longest} {
		for _, window := range []int{0, 1, 2, length / 2, length - 1, length, length + 1, longest - 1, longest} {
			for _, made := range []int{0, 1, 3, lastBlock - 1, lastBlock} {
				x := sideOf(made, length, min(window, longest))
				at := dues(x)
				if len(at) != lastBlock+1 {
					t.Fatalf("the model has %d dues", len(at))
				}
				for height := -2*longest - 2; height <= made+(lastBlock+3)*length+longest; height++ {
					asks(t, x, at, height)
				}
			}
		}
	}
}

// P15.1: MaxBlocks is the last epoch that is Due; 0 is the first.
func TestDueLast(t *testing.T) {
	x := sideOf(3, 4, 2)
	for _, c := range []struct {
		height, e int
		due       bool
	}{{5, 0, false}, {9, 0, true}, {1605, 399, true}, {1609, 400, true}, {1608, 0, false}, {1610, 0, false}, {1613, 0, false}, {1617, 0, false}} {
		if e, due := payout.Due(x, c.height); e != c.e || due != c.due {
			t.Errorf("Due at %d: %d, %v, want %d, %v", c.height, e, due, c.e, c.due)
		}
	}
}

// P15.1, R1: heights far away are no epoch's, whatever wraps round.
func TestDueFar(t *testing.T) {
	for _, length := range []int{1, 2, 4, longest} {
		for _, window := range []int{0, 1, 2, longest} {
			for _, made := range []int{0, 3, lastBlock} {
				for _, height := range far {
					if e, due := payout.Due(sideOf(made, length, window), height); e != 0 || due {
						t.Errorf("made %d, Length %d, Window %d: Due at %d: %d, %v", made, length, window, height, e, due)
					}
				}
			}
		}
	}
}

// P15.1: of what has Ceased nothing is Due, at whatever height it did.
func TestDueCeased(t *testing.T) {
	for _, stopped := range []int{0, 9, 13, 400} {
		x := sideOf(3, 4, 2)
		x.Ceased, x.At = true, stopped
		for height := -20; height < 2000; height++ {
			if e, due := payout.Due(x, height); e != 0 || due {
				t.Errorf("Ceased: Due at %d: %d, %v", height, e, due)
			}
		}
	}
}

// P13.2: false, 0 of a Side whose Length, Window or Made is none, also where the sum that
// Due asks for comes out: Ends of such a one is 0.
func TestDueOdd(t *testing.T) {
	odd := []registry.Side{{}}
	for _, n := range append([]int{0, -4, longest + 1, 128, 256}, far...) {
		odd = append(odd, sideOf(3, n, 2), sideOf(0, n, 0), sideOf(lastBlock, n, longest))
	}
	for _, n := range append([]int{-2, longest + 1, 128, 256}, far...) {
		odd = append(odd, sideOf(3, 4, n), sideOf(0, 1, n), sideOf(lastBlock, longest, n))
	}
	for _, n := range append([]int{-3, lastBlock + 1, lastBlock + 4}, far...) {
		odd = append(odd, sideOf(n, 4, 2), sideOf(n, 1, 0), sideOf(n, longest, longest))
	}
	for _, x := range odd {
		heights := append([]int{x.Params.Window, x.Made, x.Made + x.Params.Length + x.Params.Window, x.Made + 2*x.Params.Length + x.Params.Window, x.Params.Window - 1, x.Params.Window + 1}, far...)
		for height := -70; height < 900; height++ {
			heights = append(heights, height)
		}
		for _, height := range heights {
			if e, due := payout.Due(x, height); e != 0 || due {
				t.Errorf("made %d, Length %d, Window %d: Due at %d: %d, %v", x.Made, x.Params.Length, x.Params.Window, height, e, due)
			}
		}
	}
}

// P15.1, R5: what else a Side has is not asked, and Due changes none of it.
func TestDueAlone(t *testing.T) {
	for n := range 12 {
		x := whole(n)
		x.Ceased = false
		before := whole(n)
		before.Ceased = false
		at := dues(sideOf(x.Made, x.Params.Length, x.Params.Window))
		for height := range 500 {
			asks(t, x, at, height)
		}
		if !reflect.DeepEqual(x, before) {
			t.Errorf("Due changed %+v to %+v", before, x)
		}
	}
}

// P15.1, P14.1: a window's last height is the one that is Due: the epoch is Open there for
// the last time, and if there is a Window at all.
func TestDueOpen(t *testing.T) {
	for length := 1; length <= 9; length++ {
		for window := 0; window <= length; window++ {
			x := sideOf(length%3, length, window)
			for height := range 120 {
				for e := range 12 {
					last := x.Open(e, height) && !x.Open(e, height+1)
					is, due := payout.Due(x, height)
					if window > 0 && last != (due && is == e) {
						t.Errorf("Length %d, Window %d: epoch %d at %d: last %v, Due %d, %v", length, window, e, height, last, is, due)
					}
				}
			}
		}
	}
}
