// Package edge tells which floats are work, and adds them: see DOC.md, chapter 1.
package edge

import (
	"math"

	"drawbridge/api"
)

// Kinds: see the chapter.
const (
	Nan = iota
	Infinite
	Signed
	Broken
	Great
	Fine
)

// theNan stands for all NaNs, so that no NaN's own bits are ever told.
const theNan = 0x7ff8000000000001

// Kind: see the chapter. The edges are asked first: a NaN holds against nothing,
// and -0 is not below 0.
func Kind(x float64) int {
	switch {
	case math.IsNaN(x):
		return Nan
	case math.IsInf(x, 0):
		return Infinite
	case math.Signbit(x):
		return Signed
	case x == 0 || x != math.Trunc(x):
		return Broken
	case x > api.MaxWork:
		return Great
	}
	return Fine
}

// Work: see the chapter.
func Work(x float64) (int, bool) {
	if Kind(x) != Fine {
		return 0, false
	}
	return int(x), true
}

// Float: see the chapter. The number is asked as it is: as a float it could be
// rounded to another one.
func Float(n int) (float64, bool) {
	if n < 1 || n > api.MaxWork {
		return 0, false
	}
	return float64(n), true
}

// Sum: see the chapter. It can't go beyond an int: at most MaxBlocks are added.
func Sum(l []float64) (int, bool) {
	if len(l) > api.MaxBlocks {
		return 0, false
	}
	sum := 0
	for _, x := range l {
		n, ok := Work(x)
		if !ok {
			return 0, false
		}
		sum += n
	}
	return sum, true
}

// Compare: see the chapter. Below 0, at 0, above 0: x is ahead of y, with it, behind it.
func Compare(x, y float64) int {
	switch {
	case math.IsNaN(x) || math.IsNaN(y):
		return rank(!math.IsNaN(x)) - rank(!math.IsNaN(y))
	case x < y:
		return -1
	case x > y:
		return 1
	}
	// The two noughts alone are equal as numbers and yet not one.
	return rank(!math.Signbit(x)) - rank(!math.Signbit(y))
}

// rank puts what lacks a thing ahead of what has it.
func rank(has bool) int {
	if has {
		return 1
	}
	return 0
}

// Bits: see the chapter.
func Bits(x float64) [8]byte {
	u := uint64(theNan)
	if !math.IsNaN(x) {
		u = math.Float64bits(x)
	}
	var b [8]byte
	for i := range b {
		b[i] = byte(u >> (8 * i))
	}
	return b
}

// Of: see the chapter.
func Of(b [8]byte) float64 {
	u := uint64(0)
	for i, c := range b {
		u |= uint64(c) << (8 * i)
	}
	return math.Float64frombits(u)
}
