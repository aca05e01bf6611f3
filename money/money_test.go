package money_test

import (
	"errors"
	"math"
	"math/big"
	"slices"
	"testing"

	"drawbridge/api"
	"drawbridge/money"
)

// The signatures of the chapter.
var (
	_ func(int) bool             = money.May
	_ func(int, int) (int, bool) = money.Add
	_ func(int, int) (int, bool) = money.Sub
	_ func(...int) (int, bool)   = money.Sum
	_ func(int, int) int         = money.Must
	_ func(func()) bool          = money.Guard
)

// most is MaxMoney, by its number.
const most = 1 << 50

// fair are numbers that may be, the edges among them.
func fair() []int {
	return []int{
		0, 1, 2, 3, 255, 4999, 5000, 65536, 1<<31 - 1, 1 << 31, 1 << 32, 1<<32 + 1,
		most/2 - 1, most / 2, most/2 + 1, most - 5000, most - 2, most - 1, most,
	}
}

// foul are numbers that may not be: some are within the bounds in their lowest bits,
// and sums and differences of some wrap round to such.
func foul() []int {
	return []int{
		-1, -2, -5000, -(1 << 31), -(1 << 32), -(1 << 32) + 5, -most / 2, -most + 1, -most, -most - 1,
		math.MinInt64, math.MinInt64 + 1, math.MinInt64 + most, math.MinInt64 / 2, math.MinInt64/2 + 1,
		most + 1, most + 2, most + 5000, 2*most - 1, 2 * most, 1<<53 + 1,
		1 << 62, 1<<62 + 1, math.MaxInt64 - most, math.MaxInt64 - 1, math.MaxInt64,
	}
}

// within is the number, if it is from 0 to MaxMoney: reckoned without bounds.
func within(n *big.Int) (int, bool) {
	if n.Sign() < 0 || n.Cmp(big.NewInt(most)) > 0 {
		return 0, false
	}
	return int(n.Int64()), true
}

// whole are both numbers without bounds, and whether both may be.
func whole(a, b int) (x, y *big.Int, may bool) {
	x, y = big.NewInt(int64(a)), big.NewInt(int64(b))
	_, first := within(x)
	_, second := within(y)
	return x, y, first && second
}

// wantAdd is what Add answers.
func wantAdd(a, b int) (int, bool) {
	x, y, may := whole(a, b)
	if !may {
		return 0, false
	}
	return within(x.Add(x, y))
}

// wantSub is what Sub answers.
func wantSub(a, b int) (int, bool) {
	x, y, may := whole(a, b)
	if !may {
		return 0, false
	}
	return within(x.Sub(x, y))
}

// P2.1: from 0 to MaxMoney.
func TestMay(t *testing.T) {
	if api.MaxMoney != most {
		t.Fatalf("MaxMoney is %d, want 2^50", api.MaxMoney)
	}
	for _, n := range fair() {
		if !money.May(n) {
			t.Errorf("May(%d) is false", n)
		}
	}
	for _, n := range foul() {
		if money.May(n) {
			t.Errorf("May(%d) is true", n)
		}
	}
}

// P2.1: sums and differences of all pairs, those that may be and those that may not.
func TestAddAndSub(t *testing.T) {
	all := append(fair(), foul()...)
	for _, a := range all {
		for _, b := range all {
			want, may := wantAdd(a, b)
			if g, ok := money.Add(a, b); g != want || ok != may {
				t.Errorf("Add(%d, %d) = %d, %v, want %d, %v", a, b, g, ok, want, may)
			}
			want, may = wantSub(a, b)
			if g, ok := money.Sub(a, b); g != want || ok != may {
				t.Errorf("Sub(%d, %d) = %d, %v, want %d, %v", a, b, g, ok, want, may)
			}
		}
	}
}

// P2.1: sums and differences by their numbers, at the edges.
func TestAddAndSubEdges(t *testing.T) {
	type pair struct {
		a, b, want int
		ok         bool
	}
	for _, c := range []pair{
		{0, 0, 0, true},
		{2, 3, 5, true},
		{most, 0, most, true},
		{0, most, most, true},
		{most - 1, 1, most, true},
		{most / 2, most / 2, most, true},
		{most, 1, 0, false},
		{1, most, 0, false},
		{most/2 + 1, most / 2, 0, false},
		{most, most, 0, false},
		{most + 1, -1, 0, false},
		{-1, 2, 0, false},
		{2, -1, 0, false},
		{math.MinInt64, math.MinInt64, 0, false},
		{math.MaxInt64, math.MinInt64 + 1, 0, false},
	} {
		if g, ok := money.Add(c.a, c.b); g != c.want || ok != c.ok {
			t.Errorf("Add(%d, %d) = %d, %v, want %d, %v", c.a, c.b, g, ok, c.want, c.ok)
		}
	}
	for _, c := range []pair{
		{0, 0, 0, true},
		{5, 3, 2, true},
		{5, 5, 0, true},
		{most, 0, most, true},
		{most, 1, most - 1, true},
		{most, most, 0, true},
		{1, 2, 0, false},
		{0, 1, 0, false},
		{0, most, 0, false},
		{most - 1, most, 0, false},
		{most + 1, 1, 0, false},
		{most + 1, most + 1, 0, false},
		{-1, -1, 0, false},
		{5, -1, 0, false},
		{0, math.MinInt64, 0, false},
		{math.MinInt64, math.MinInt64, 0, false},
		{math.MinInt64, math.MaxInt64, 0, false},
	} {
		if g, ok := money.Sub(c.a, c.b); g != c.want || ok != c.ok {
			t.Errorf("Sub(%d, %d) = %d, %v, want %d, %v", c.a, c.b, g, ok, c.want, c.ok)
		}
	}
}

// P2.1: what is added one behind the other, and stays within.
func TestSum(t *testing.T) {
	for _, c := range []struct {
		l    []int
		want int
	}{
		{nil, 0},
		{[]int{}, 0},
		{[]int{0}, 0},
		{[]int{7}, 7},
		{[]int{most}, most},
		{[]int{1, 2, 3}, 6},
		{[]int{0, 0, 5, 0}, 5},
		{[]int{5000, 5000, 5000}, 15000},
		{[]int{most, 0, 0}, most},
		{[]int{0, most, 0}, most},
		{[]int{most - 3, 1, 2}, most},
		{[]int{1, 2, most - 3}, most},
		{[]int{most / 2, most/2 - 1, 1}, most},
		{slices.Repeat([]int{most / 1024}, 1024), most},
		{slices.Repeat([]int{1}, 100000), 100000},
	} {
		if g, ok := money.Sum(c.l...); g != c.want || !ok {
			t.Errorf("Sum of %d numbers = %d, %v, want %d, true", len(c.l), g, ok, c.want)
		}
	}
	if g, ok := money.Sum(); g != 0 || !ok {
		t.Errorf("Sum() = %d, %v, want 0, true", g, ok)
	}
}

// P2.1: one number that may not be, wherever it stands, or a sum that goes beyond: 0, false.
func TestSumRefuses(t *testing.T) {
	refused := func(what string, l ...int) {
		t.Helper()
		if g, ok := money.Sum(l...); g != 0 || ok {
			t.Errorf("Sum of %s = %d, %v, want 0, false", what, g, ok)
		}
	}
	for _, n := range foul() {
		refused("one that may not be", n)
		refused("one that may not be, ahead", n, 1, 2)
		refused("one that may not be, between", 1, n, 2)
		refused("one that may not be, behind", 1, 2, n)
		refused("MaxMoney and one that may not be", most, n)
		refused("two that may not be", n, n)
		refused("one that may not be, and what it lacks", n, -n)
	}
	refused("MaxMoney and 1", most, 1)
	refused("1 and MaxMoney", 1, most)
	refused("1, 2 and too much", 1, 2, most-2)
	refused("halves and 1", most/2, most/2, 1)
	refused("what goes beyond, and comes back", most, 1, -1)
	refused("what goes below, and comes back", 5, -6, 7)
	refused("what wraps round", slices.Repeat([]int{most}, 1<<14)...)
	refused("1025 of 1024 parts", slices.Repeat([]int{most / 1024}, 1025)...)
}

// R4: neither the numbers nor the room behind them are changed.
func TestSumLeavesTheList(t *testing.T) {
	for _, first := range []int{3, -1, most} {
		room := []int{first, 2, 1, 77, -77}
		want := slices.Clone(room)
		money.Sum(room[:3]...)
		if !slices.Equal(room, want) {
			t.Errorf("Sum changed %v to %v", want, room)
		}
	}
}

// caught is what f panicked with, and whether it did.
func caught(f func()) (with any, panicked bool) {
	panicked = true
	defer func() { with = recover() }()
	f()
	return nil, false
}

// P2.1: Must is Add where Add is true, and panics with a text where it is not.
func TestMust(t *testing.T) {
	all := append(fair(), foul()...)
	for _, a := range all {
		for _, b := range all {
			want, may := wantAdd(a, b)
			g := 0
			with, panicked := caught(func() { g = money.Must(a, b) })
			if panicked == may || g != want {
				t.Errorf("Must(%d, %d) = %d, panicked %v, want %d, %v", a, b, g, panicked, want, !may)
			}
			if text, ok := with.(string); panicked && (!ok || text == "") {
				t.Errorf("Must(%d, %d) panicked with %v, want a text", a, b, with)
			}
		}
	}
}

// P2.1: a function that comes to its end is called once; none is nothing.
func TestGuard(t *testing.T) {
	if !money.Guard(nil) {
		t.Error("Guard(nil) is false")
	}
	calls := 0
	if !money.Guard(func() { calls++ }) || calls != 1 {
		t.Errorf("Guard of what ends: false, or %d calls", calls)
	}
	if money.Guard(func() { calls++; panic("no") }) || calls != 2 {
		t.Errorf("Guard of what panics: true, or %d calls in all, want 2", calls)
	}
	if !money.Guard(func() { money.Must(most-1, 1) }) {
		t.Error("Guard of a sum that may be is false")
	}
	if !money.Guard(func() { defer func() { _ = recover() }(); panic("mended within") }) {
		t.Error("Guard of what recovered within is false")
	}
}

// panics are functions that panic, each in its own way.
func panics() map[string]func() {
	var none []int
	var table map[int]int
	var place *int
	var thing any = "text"
	var inner func()
	return map[string]func(){
		"a text":             func() { panic("text") },
		"an empty text":      func() { panic("") },
		"a number":           func() { panic(1) },
		"nought":             func() { panic(0) },
		"true":               func() { panic(true) },
		"false":              func() { panic(false) },
		"nil":                func() { panic(nil) },
		"no error":           func() { panic(error(nil)) },
		"an error":           func() { panic(errors.New("error")) },
		"OK":                 func() { panic(api.OK) },
		"ErrMoney":           func() { panic(api.ErrMoney) },
		"a struct":           func() { panic(api.Out{}) },
		"a list":             func() { panic([]int{1}) },
		"a function":         func() { panic(func() {}) },
		"money":              func() { money.Must(most, 1) },
		"an index":           func() { _ = none[len(none)] },
		"a map that is none": func() { table[1] = 1 },
		"a place of nothing": func() { *place = 1 },
		"a division":         func() { _ = 1 / len(none) },
		"another type":       func() { _ = thing.(int) },
		"no function":        func() { inner() },
		"twice":              func() { defer func() { panic("second") }(); panic("first") },
		"once more":          func() { defer func() { _ = recover(); panic("again") }(); panic("first") },
		"behind its end":     func() { defer func() { panic("late") }() },
	}
}

// P2.1: false of each panic, whatever with, and however deep within.
func TestGuardRecovers(t *testing.T) {
	for what, f := range panics() {
		if money.Guard(f) {
			t.Errorf("Guard of a panic with %s is true", what)
		}
		if money.Guard(func() { deep(100, f) }) {
			t.Errorf("Guard of a panic with %s deep within is true", what)
		}
		if with, panicked := caught(func() { money.Guard(f) }); panicked {
			t.Errorf("Guard of a panic with %s panicked with %v", what, with)
		}
	}
	if !money.Guard(func() {}) {
		t.Error("Guard of what ends is false behind panics")
	}
}

// P2.1: a panic with nil is one, also where the runtime is told to let recover answer nil for it.
func TestGuardRecoversNil(t *testing.T) {
	for _, set := range []string{"panicnil=0", "panicnil=1"} {
		t.Setenv("GODEBUG", set)
		if money.Guard(func() { panic(nil) }) {
			t.Errorf("Guard of a panic with nil is true, %s", set)
		}
	}
}

// deep calls f that many calls down.
func deep(calls int, f func()) {
	if calls > 0 {
		deep(calls-1, f)
		return
	}
	f()
}

// P2.1: the Guard that is nearest recovers; the one around it sees an end.
func TestGuardInGuard(t *testing.T) {
	inner, after := true, false
	outer := money.Guard(func() {
		inner = money.Guard(func() { money.Must(-1, 0) })
		after = true
	})
	if !outer || inner || !after {
		t.Errorf("outer %v, inner %v, after %v, want true, false, true", outer, inner, after)
	}
	steps := 0
	outer = money.Guard(func() {
		money.Guard(func() { steps++ })
		money.Must(most, most)
		steps = 100
	})
	if outer || steps != 1 {
		t.Errorf("outer %v, %d steps, want false, 1", outer, steps)
	}
}

// The chapter's examples.
func TestExamples(t *testing.T) {
	if n, ok := money.Add(api.MaxMoney, 1); n != 0 || ok {
		t.Errorf("Add(MaxMoney, 1) = %d, %v, want 0, false", n, ok)
	}
	if n, ok := money.Sub(1, 2); n != 0 || ok {
		t.Errorf("Sub(1, 2) = %d, %v, want 0, false", n, ok)
	}
	if n, ok := money.Sum(1, 2, 3); n != 6 || !ok {
		t.Errorf("Sum(1, 2, 3) = %d, %v, want 6, true", n, ok)
	}
}
