package edge_test

import (
	"math"
	"slices"
	"testing"

	"drawbridge/api"
	"drawbridge/edge"
)

// The signatures of the chapter.
var (
	_ func(float64) int           = edge.Kind
	_ func(float64) (int, bool)   = edge.Work
	_ func(int) (float64, bool)   = edge.Float
	_ func([]float64) (int, bool) = edge.Sum
	_ func(float64, float64) int  = edge.Compare
	_ func(float64) [8]byte       = edge.Bits
	_ func([8]byte) float64       = edge.Of
)

const (
	least   = math.SmallestNonzeroFloat64
	normal  = 0x1p-1022 // the least float that is not subnormal
	maxWork = float64(api.MaxWork)
)

// minus is the nought below 0.
func minus() float64 { return math.Copysign(0, -1) }

// nans are NaNs of many bits: quiet ones and others, of both signs.
func nans() []float64 {
	var l []float64
	for _, u := range []uint64{
		0x7ff8000000000001, 0x7ff8000000000000, 0xfff8000000000000, 0xfff8000000000001,
		0x7ff0000000000001, 0xfff0000000000001, 0x7fffffffffffffff, 0xffffffffffffffff,
		0x7ff4000000000000, 0xfff8000000000007, 0x7ff00000ffffffff,
	} {
		l = append(l, math.Float64frombits(u))
	}
	return append(l, math.NaN(), math.Inf(1)-math.Inf(1))
}

// kind is a float and the kind that it is of.
type kind struct {
	x    float64
	want int
}

// kinds are the floats at the edges that are no NaN, with what each is.
func kinds() []kind {
	return []kind{
		{math.Inf(1), edge.Infinite},
		{math.Inf(-1), edge.Infinite},
		{minus(), edge.Signed},
		{-least, edge.Signed},
		{-normal, edge.Signed},
		{-0.5, edge.Signed},
		{-1, edge.Signed},
		{-1.5, edge.Signed},
		{-maxWork, edge.Signed},
		{-maxWork - 1, edge.Signed},
		{-(1 << 32) - 3, edge.Signed},
		{-0x1p63, edge.Signed},
		{-0x1p64, edge.Signed},
		{-math.MaxFloat64, edge.Signed},
		{0, edge.Broken},
		{least, edge.Broken},
		{normal, edge.Broken},
		{0.5, edge.Broken},
		{math.Nextafter(1, 0), edge.Broken},
		{1, edge.Fine},
		{math.Nextafter(1, 2), edge.Broken},
		{1.5, edge.Broken},
		{2, edge.Fine},
		{2.999, edge.Broken},
		{3, edge.Fine},
		{math.Pi, edge.Broken},
		{255, edge.Fine},
		{65536, edge.Fine},
		{maxWork - 1, edge.Fine},
		{maxWork - 0.5, edge.Broken},
		{math.Nextafter(maxWork, 0), edge.Broken},
		{maxWork, edge.Fine},
		{math.Nextafter(maxWork, 2*maxWork), edge.Broken},
		{maxWork + 0.5, edge.Broken},
		{maxWork + 1, edge.Great},
		{maxWork + 1.5, edge.Broken},
		{2 * maxWork, edge.Great},
		{2*maxWork + 0.25, edge.Broken},
		{1<<31 + 0.5, edge.Broken},
		{1<<32 + 3, edge.Great},
		{0x1p52 - 0.5, edge.Broken},
		{0x1p53, edge.Great},
		{0x1p63, edge.Great},
		{0x1p64, edge.Great},
		{0x1p64 + 4096, edge.Great},
		{math.MaxFloat64, edge.Great},
	}
}

// P1.1: the kinds are numbered in their order.
func TestKindNumbers(t *testing.T) {
	got := []int{edge.Nan, edge.Infinite, edge.Signed, edge.Broken, edge.Great, edge.Fine}
	if !slices.Equal(got, []int{0, 1, 2, 3, 4, 5}) {
		t.Errorf("the kinds are %v, want 0 to 5", got)
	}
}

// P1.1: what a float is, and that the first name that fits is told.
func TestKind(t *testing.T) {
	for _, x := range nans() {
		if g := edge.Kind(x); g != edge.Nan {
			t.Errorf("Kind(NaN %x) = %d, want %d", math.Float64bits(x), g, edge.Nan)
		}
	}
	for _, c := range kinds() {
		if g := edge.Kind(c.x); g != c.want {
			t.Errorf("Kind(%v) = %d, want %d", c.x, g, c.want)
		}
	}
}

// P1.1: the number of a Fine float, and 0 with false of every other one.
func TestWork(t *testing.T) {
	for _, c := range kinds() {
		n, ok := edge.Work(c.x)
		if c.want == edge.Fine && (!ok || float64(n) != c.x) {
			t.Errorf("Work(%v) = %d, %v", c.x, n, ok)
		}
		if c.want != edge.Fine && (ok || n != 0) {
			t.Errorf("Work(%v) = %d, %v, want 0, false", c.x, n, ok)
		}
	}
	for _, x := range nans() {
		if n, ok := edge.Work(x); ok || n != 0 {
			t.Errorf("Work(NaN %x) = %d, %v, want 0, false", math.Float64bits(x), n, ok)
		}
	}
}

// P1.1: each number from 1 to MaxWork is the Work of its Float; nothing stands between two of them.
func TestEveryWork(t *testing.T) {
	for n := 1; n <= api.MaxWork; n++ {
		x, ok := edge.Float(n)
		if !ok || x != float64(n) {
			t.Fatalf("Float(%d) = %v, %v", n, x, ok)
		}
		if g, ok := edge.Work(x); !ok || g != n {
			t.Fatalf("Work(Float(%d)) = %d, %v", n, g, ok)
		}
		if k := edge.Kind(x + 0.5); k != edge.Broken {
			t.Fatalf("Kind(%v) = %d, want %d", x+0.5, k, edge.Broken)
		}
		if k := edge.Kind(-x); k != edge.Signed {
			t.Fatalf("Kind(%v) = %d, want %d", -x, k, edge.Signed)
		}
	}
}

// P1.1: a number that is no Work has no Float.
func TestFloatRefuses(t *testing.T) {
	for _, n := range []int{
		0, -1, -2, -api.MaxWork, math.MinInt32, math.MinInt64, math.MinInt64 + 1,
		api.MaxWork + 1, 2 * api.MaxWork, 1 << 31, 1<<32 + 1, 1<<32 + api.MaxWork,
		1<<53 + 1, math.MaxInt64 - 1, math.MaxInt64, -(1 << 32) + 5,
	} {
		if x, ok := edge.Float(n); ok || math.Float64bits(x) != 0 {
			t.Errorf("Float(%d) = %v, %v, want 0, false", n, x, ok)
		}
	}
}

// times is a list of n times x.
func times(n int, x float64) []float64 {
	return slices.Repeat([]float64{x}, n)
}

// P1.2: the sums of lists of Fine floats, up to MaxBlocks of them.
func TestSum(t *testing.T) {
	for _, c := range []struct {
		l    []float64
		want int
	}{
		{nil, 0},
		{[]float64{}, 0},
		{[]float64{1}, 1},
		{[]float64{maxWork}, api.MaxWork},
		{[]float64{1, 2, 3}, 6},
		{[]float64{3, 3}, 6},
		{[]float64{maxWork, 1}, api.MaxWork + 1},
		{[]float64{1, maxWork, maxWork - 1}, 2 * api.MaxWork},
		{times(api.MaxBlocks-1, 1), api.MaxBlocks - 1},
		{times(api.MaxBlocks, 1), api.MaxBlocks},
		{times(api.MaxBlocks, maxWork), api.MaxBlocks * api.MaxWork},
		{append(times(api.MaxBlocks-1, maxWork), 1), (api.MaxBlocks-1)*api.MaxWork + 1},
	} {
		if g, ok := edge.Sum(c.l); !ok || g != c.want {
			t.Errorf("Sum of %d floats = %d, %v, want %d, true", len(c.l), g, ok, c.want)
		}
	}
}

// P1.2: one float that is not Fine, wherever it stands, or one float too many: 0, false.
func TestSumRefuses(t *testing.T) {
	refused := func(what string, l []float64) {
		t.Helper()
		if g, ok := edge.Sum(l); ok || g != 0 {
			t.Errorf("Sum of %s = %d, %v, want 0, false", what, g, ok)
		}
	}
	bad := nans()
	for _, c := range kinds() {
		if c.want != edge.Fine {
			bad = append(bad, c.x)
		}
	}
	for _, x := range bad {
		refused("one that is not Fine", []float64{x})
		refused("one that is not Fine, ahead", []float64{x, 1, 2})
		refused("one that is not Fine, between", []float64{1, x, 2})
		refused("one that is not Fine, behind", []float64{1, 2, x})
		refused("MaxBlocks, the last not Fine", append(times(api.MaxBlocks-1, 1), x))
		refused("MaxBlocks and one not Fine", append(times(api.MaxBlocks, 1), x))
	}
	refused("two halves", []float64{0.5, 0.5})
	refused("MaxBlocks and one more", times(api.MaxBlocks+1, 1))
	refused("twice MaxBlocks", times(2*api.MaxBlocks, maxWork))
	refused("65536 and two", times(1<<16+2, 1))
}

// R4: neither the list nor the room behind it is changed.
func TestSumLeavesTheList(t *testing.T) {
	for _, first := range []float64{3, minus()} {
		room := []float64{first, 2, 1, minus(), math.Inf(-1)}
		want := slices.Clone(room)
		edge.Sum(room[:3])
		for i, x := range room {
			if math.Float64bits(x) != math.Float64bits(want[i]) {
				t.Errorf("Sum changed float %d from %v to %v", i, want[i], x)
			}
		}
	}
}

// rising are floats that are no NaN, each behind the one ahead of it.
func rising() []float64 {
	return []float64{
		math.Inf(-1), -math.MaxFloat64, -0x1p64, -0x1p63, -maxWork, -2, -1.5,
		math.Nextafter(-1, -2), -1, math.Nextafter(-1, 0), -0.5, -normal, -2 * least, -least,
		minus(), 0,
		least, 2 * least, normal, 0.5, math.Nextafter(1, 0), 1, math.Nextafter(1, 2), 1.5, 2,
		maxWork - 1, math.Nextafter(maxWork, 0), maxWork, maxWork + 1, 1 << 32,
		0x1p53, 0x1p53 + 2, 0x1p63, 0x1p64, math.MaxFloat64, math.Inf(1),
	}
}

// P1.2: one order of all floats.
func TestCompare(t *testing.T) {
	l := rising()
	for i, x := range l {
		for j, y := range l {
			want := 0
			if i < j {
				want = -1
			} else if i > j {
				want = 1
			}
			if g := edge.Compare(x, y); g != want {
				t.Errorf("Compare(%v, %v) = %d, want %d", x, y, g, want)
			}
		}
	}
}

// P1.2: all NaNs are equal, and ahead of all others.
func TestCompareNaNs(t *testing.T) {
	for _, x := range nans() {
		u := math.Float64bits(x)
		for _, y := range nans() {
			if g := edge.Compare(x, y); g != 0 {
				t.Errorf("Compare(NaN %x, NaN %x) = %d, want 0", u, math.Float64bits(y), g)
			}
		}
		for _, y := range rising() {
			if g := edge.Compare(x, y); g != -1 {
				t.Errorf("Compare(NaN %x, %v) = %d, want -1", u, y, g)
			}
			if g := edge.Compare(y, x); g != 1 {
				t.Errorf("Compare(%v, NaN %x) = %d, want 1", y, u, g)
			}
		}
	}
}

// P1.2: the bytes of floats, the lowest first, and back.
func TestBits(t *testing.T) {
	for _, c := range []struct {
		x    float64
		want [8]byte
	}{
		{0, [8]byte{}},
		{minus(), [8]byte{7: 0x80}},
		{1, [8]byte{6: 0xf0, 7: 0x3f}},
		{2, [8]byte{7: 0x40}},
		{-2, [8]byte{7: 0xc0}},
		{3, [8]byte{6: 0x08, 7: 0x40}},
		{maxWork, [8]byte{6: 0x30, 7: 0x41}},
		{least, [8]byte{1}},
		{math.Inf(1), [8]byte{6: 0xf0, 7: 0x7f}},
		{math.Inf(-1), [8]byte{6: 0xf0, 7: 0xff}},
		{math.MaxFloat64, [8]byte{255, 255, 255, 255, 255, 255, 0xef, 0x7f}},
		{math.Pi, [8]byte{0x18, 0x2d, 0x44, 0x54, 0xfb, 0x21, 0x09, 0x40}},
		{math.Float64frombits(0x0807060504030201), [8]byte{1, 2, 3, 4, 5, 6, 7, 8}},
		{math.Float64frombits(0xf1f2f3f4f5f6f7f8), [8]byte{0xf8, 0xf7, 0xf6, 0xf5, 0xf4, 0xf3, 0xf2, 0xf1}},
	} {
		if g := edge.Bits(c.x); g != c.want {
			t.Errorf("Bits(%v) = %v, want %v", c.x, g, c.want)
		}
		if g := edge.Of(c.want); math.Float64bits(g) != math.Float64bits(c.x) {
			t.Errorf("Of(%v) = %v, want %v", c.want, g, c.x)
		}
	}
}

// P1.2: of each NaN the same bytes are told; the bytes of each are a NaN.
func TestBitsNaNs(t *testing.T) {
	want := [8]byte{1, 0, 0, 0, 0, 0, 0xf8, 0x7f}
	for _, x := range nans() {
		u := math.Float64bits(x)
		if g := edge.Bits(x); g != want {
			t.Errorf("Bits(NaN %x) = %v, want %v", u, g, want)
		}
		var b [8]byte
		for i := range b {
			b[i] = byte(u >> (8 * i))
		}
		if g := edge.Of(b); !math.IsNaN(g) || edge.Bits(g) != want {
			t.Errorf("Of(%v) = %v, want NaN", b, g)
		}
	}
}

// P1.2: each bit of a float has its own place in its bytes, and Of is the way back from Bits.
func TestBitsAndBack(t *testing.T) {
	for _, x := range rising() {
		if g := edge.Of(edge.Bits(x)); math.Float64bits(g) != math.Float64bits(x) {
			t.Errorf("Of(Bits(%v)) = %v", x, g)
		}
	}
	for i := range 64 {
		u := uint64(1) << i
		x := math.Float64frombits(u)
		want := [8]byte{}
		want[i/8] = 1 << (i % 8)
		if g := edge.Bits(x); g != want {
			t.Errorf("Bits(%v) = %v, want %v", x, g, want)
		}
		if g := edge.Of(want); math.Float64bits(g) != u {
			t.Errorf("Of(%v) = %v, want %v", want, g, x)
		}
	}
}

// The chapter's examples.
func TestExamples(t *testing.T) {
	if g := edge.Kind(minus()); g != edge.Signed {
		t.Errorf("Kind(-0) = %d, want Signed", g)
	}
	if n, ok := edge.Work(3); n != 3 || !ok {
		t.Errorf("Work(3) = %d, %v, want 3, true", n, ok)
	}
	if g := edge.Kind(0.5); g != edge.Broken {
		t.Errorf("Kind(0.5) = %d, want Broken", g)
	}
	if g := edge.Kind(1 << 21); g != edge.Great {
		t.Errorf("Kind(2^21) = %d, want Great", g)
	}
}
