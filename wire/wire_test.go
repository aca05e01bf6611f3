package wire_test

import (
	"bytes"
	"errors"
	"fmt"
	"math"
	"slices"
	"testing"

	"drawbridge/api"
	"drawbridge/wire"
)

// The signatures of the chapter.
var (
	_ func(*wire.Writer, int, int)                 = (*wire.Writer).Num
	_ func(*wire.Writer, api.Hash)                 = (*wire.Writer).Hash
	_ func(*wire.Writer, []byte)                   = (*wire.Writer).Bytes
	_ func(*wire.Writer) ([]byte, api.Errno)       = (*wire.Writer).End
	_ func([]byte) *wire.Reader                    = wire.NewReader
	_ func(*wire.Reader, int) int                  = (*wire.Reader).Num
	_ func(*wire.Reader) api.Hash                  = (*wire.Reader).Hash
	_ func(*wire.Reader) []byte                    = (*wire.Reader).Bytes
	_ func(*wire.Reader) int                       = (*wire.Reader).Left
	_ func([]byte, func(r *wire.Reader)) api.Errno = wire.Read
)

// most is MaxBytes, by its number.
const most = 1 << 17

// count is n bytes that differ from their neighbours.
func count(n int) []byte {
	b := make([]byte, n)
	for i := range b {
		b[i] = byte(i*7 + i>>8 + 1)
	}
	return b
}

// hashOf is a hash of eight bytes that differ.
func hashOf(first byte) api.Hash {
	return api.Hash{first, first + 1, first + 2, first + 3, first + 4, first + 5, first + 6, first + 7}
}

// written is what a new Writer answers when f has written.
func written(f func(w *wire.Writer)) ([]byte, api.Errno) {
	var w wire.Writer
	f(&w)
	return w.End()
}

// wrote asks a Writer's answer.
func wrote(t *testing.T, what string, w *wire.Writer, want []byte, wantErr api.Errno) {
	t.Helper()
	b, err := w.End()
	if !bytes.Equal(b, want) || err != wantErr {
		t.Errorf("%s: %d bytes, %v, want %d bytes, %v", what, len(b), err, len(want), wantErr)
		if len(b) < 40 && len(want) < 40 {
			t.Errorf("%s: %v, want %v", what, b, want)
		}
	}
	if err != api.OK && len(b) != 0 {
		t.Errorf("%s: %d bytes with %v", what, len(b), err)
	}
}

// caught is whether f panicked.
func caught(f func()) (panicked bool) {
	panicked = true
	defer func() { _ = recover() }()
	f()
	return false
}

// P3.1: the lowest byte first, in so many bytes.
func TestWriterNum(t *testing.T) {
	for _, c := range []struct {
		n, width int
		want     []byte
	}{
		{0, 1, []byte{0}},
		{1, 1, []byte{1}},
		{127, 1, []byte{127}},
		{128, 1, []byte{128}},
		{255, 1, []byte{255}},
		{0, 2, []byte{0, 0}},
		{255, 2, []byte{255, 0}},
		{256, 2, []byte{0, 1}},
		{258, 2, []byte{2, 1}},
		{65535, 2, []byte{255, 255}},
		{0x030201, 3, []byte{1, 2, 3}},
		{1<<24 - 1, 3, []byte{255, 255, 255}},
		{0x04030201, 4, []byte{1, 2, 3, 4}},
		{1<<31 - 1, 4, []byte{255, 255, 255, 127}},
		{1 << 31, 4, []byte{0, 0, 0, 128}},
		{1<<32 - 1, 4, []byte{255, 255, 255, 255}},
		{1 << 32, 5, []byte{0, 0, 0, 0, 1}},
		{1<<40 - 1, 5, []byte{255, 255, 255, 255, 255}},
		{0x060504030201, 6, []byte{1, 2, 3, 4, 5, 6}},
		{0, 7, []byte{0, 0, 0, 0, 0, 0, 0}},
		{5, 7, []byte{5, 0, 0, 0, 0, 0, 0}},
		{0x07060504030201, 7, []byte{1, 2, 3, 4, 5, 6, 7}},
		{1<<56 - 1, 7, []byte{255, 255, 255, 255, 255, 255, 255}},
	} {
		var w wire.Writer
		w.Num(c.n, c.width)
		wrote(t, fmt.Sprintf("Num(%d, %d)", c.n, c.width), &w, c.want, api.OK)
	}
}

// P3.1: each width's edges: the greatest number goes into it, the next one does not, none below 0 does.
func TestWriterNumRefuses(t *testing.T) {
	for width := 1; width <= 7; width++ {
		past := 1 << (8 * width)
		for _, n := range []int{past, past + 1, 2 * past, math.MaxInt64, -1, -2, -past, -past + 1, math.MinInt64, math.MinInt64 + 1} {
			var w wire.Writer
			w.Num(n, width)
			wrote(t, fmt.Sprintf("Num(%d, %d)", n, width), &w, nil, api.ErrArg)
		}
		var w wire.Writer
		w.Num(past-1, width)
		wrote(t, fmt.Sprintf("Num(%d, %d)", past-1, width), &w, bytes.Repeat([]byte{255}, width), api.OK)
	}
	for _, width := range []int{0, 8, 9, -1, -7, 16, 32, 64, 1 << 32, 1<<32 + 1, 1 << 61, 1<<61 + 1, math.MaxInt64, math.MinInt64, math.MinInt64 + 1} {
		for _, n := range []int{0, 1, 255, -1, math.MaxInt64} {
			var w wire.Writer
			w.Num(n, width)
			wrote(t, fmt.Sprintf("Num(%d, %d)", n, width), &w, nil, api.ErrArg)
		}
	}
}

// P3.1: a hash is its bytes, a list its length in four bytes and its bytes; all of it in the order of the calls.
func TestWriterHashAndBytes(t *testing.T) {
	var w wire.Writer
	wrote(t, "nothing", &w, nil, api.OK)
	w.Hash(api.Hash{})
	want := make([]byte, 8)
	wrote(t, "a hash of noughts", &w, want, api.OK)
	w.Hash(hashOf(9))
	want = append(want, 9, 10, 11, 12, 13, 14, 15, 16)
	wrote(t, "a hash", &w, want, api.OK)
	w.Bytes(nil)
	w.Bytes([]byte{})
	want = append(want, 0, 0, 0, 0, 0, 0, 0, 0)
	wrote(t, "lists of nothing", &w, want, api.OK)
	w.Bytes([]byte{7, 0, 255})
	want = append(want, 3, 0, 0, 0, 7, 0, 255)
	wrote(t, "a list", &w, want, api.OK)
	w.Num(3, 3)
	want = append(want, 3, 0, 0)
	wrote(t, "a number", &w, want, api.OK)
	for _, n := range []int{1, 254, 255, 256, 257, 65535, 65536, 65537, most - 5, most - 4} {
		b, err := written(func(w *wire.Writer) { w.Bytes(count(n)) })
		head := []byte{byte(n), byte(n >> 8), byte(n >> 16), 0}
		if err != api.OK || !bytes.Equal(b, append(head, count(n)...)) {
			t.Errorf("Bytes of %d: %d bytes, %v", n, len(b), err)
		}
	}
}

// fill brings a new Writer to so many bytes, four at least.
func fill(n int) *wire.Writer {
	var w wire.Writer
	w.Bytes(count(n - 4))
	return &w
}

// P3.1: MaxBytes may be written, one more may not, whatever brings it there.
func TestWriterLong(t *testing.T) {
	if api.MaxBytes != most {
		t.Fatalf("MaxBytes is %d, want 2^17", api.MaxBytes)
	}
	for _, c := range []struct {
		what string
		long int
		f    func(w *wire.Writer)
	}{
		{"Num in 1", 1, func(w *wire.Writer) { w.Num(1, 1) }},
		{"Num in 2", 2, func(w *wire.Writer) { w.Num(1, 2) }},
		{"Num in 7", 7, func(w *wire.Writer) { w.Num(1, 7) }},
		{"Hash", 8, func(w *wire.Writer) { w.Hash(hashOf(1)) }},
		{"Bytes of nothing", 4, func(w *wire.Writer) { w.Bytes(nil) }},
		{"Bytes of 1", 5, func(w *wire.Writer) { w.Bytes([]byte{1}) }},
		{"Bytes of 300", 304, func(w *wire.Writer) { w.Bytes(count(300)) }},
	} {
		piece, _ := written(c.f)
		if len(piece) != c.long {
			t.Fatalf("%s writes %d bytes, want %d", c.what, len(piece), c.long)
		}
		for short := 0; short <= c.long; short++ {
			w := fill(most - c.long + short)
			before, _ := w.End()
			c.f(w)
			if short == 0 {
				wrote(t, c.what+" up to MaxBytes", w, append(before, piece...), api.OK)
				c.f(w)
			}
			wrote(t, c.what+" past MaxBytes", w, nil, api.ErrLong)
		}
	}
	for _, n := range []int{most - 3, most, most + 1, 1 << 18, 1 << 24, 1<<24 + 1} {
		var w wire.Writer
		w.Bytes(make([]byte, n))
		wrote(t, fmt.Sprintf("Bytes of %d", n), &w, nil, api.ErrLong)
	}
	var w wire.Writer
	for range most / 8 {
		w.Hash(hashOf(3))
	}
	if b, err := w.End(); len(b) != most || err != api.OK {
		t.Errorf("as many hashes as go: %d bytes, %v", len(b), err)
	}
}

// P3.1: the first error is told, and nothing is written behind it.
func TestWriterFirstError(t *testing.T) {
	var w wire.Writer
	w.Num(1, 1)
	w.Num(256, 1)
	wrote(t, "a bad number behind a good one", &w, nil, api.ErrArg)
	w.Num(2, 1)
	w.Hash(hashOf(1))
	w.Bytes([]byte{1})
	wrote(t, "good ones behind a bad one", &w, nil, api.ErrArg)
	w.Bytes(make([]byte, most+1))
	wrote(t, "too long behind a bad one", &w, nil, api.ErrArg)
	l := fill(most)
	wrote(t, "as many as go", l, append([]byte{252, 255, 1, 0}, count(most-4)...), api.OK)
	l.Num(0, 1)
	wrote(t, "one more", l, nil, api.ErrLong)
	l.Num(0, 0)
	l.Num(-1, 1)
	l.Bytes(nil)
	wrote(t, "a bad one behind too long", l, nil, api.ErrLong)
	for _, width := range []int{0, 8, math.MaxInt64, math.MinInt64} {
		l = fill(most)
		l.Num(0, width)
		wrote(t, "a bad width where no room is", l, nil, api.ErrArg)
	}
	for _, n := range []int{-1, 256} {
		l = fill(most)
		l.Num(n, 1)
		wrote(t, "a bad number where no room is", l, nil, api.ErrArg)
	}
	// What was refused for its length is not written in part: nothing more goes behind it.
	l = fill(most - 6)
	l.Bytes([]byte{1, 2, 3})
	l.Num(1, 1)
	wrote(t, "what would go behind what did not", l, nil, api.ErrLong)
}

// P3.1, R4: End answers all of it each time, as new memory, and lists that came in are neither changed nor kept.
func TestWriterLists(t *testing.T) {
	var w wire.Writer
	room := []byte{1, 2, 3, 77, 78}
	w.Bytes(room[:3])
	want := []byte{3, 0, 0, 0, 1, 2, 3}
	copy(room, []byte{9, 9, 9})
	wrote(t, "a list that was changed behind", &w, want, api.OK)
	if !bytes.Equal(room, []byte{9, 9, 9, 77, 78}) {
		t.Errorf("the list is %v", room)
	}
	first, _ := w.End()
	second, _ := w.End()
	for i := range first[:cap(first)] {
		first[:cap(first)][i] = 99
	}
	if !bytes.Equal(second, want) {
		t.Errorf("two answers share memory: %v", second)
	}
	wrote(t, "behind a change of the answer", &w, want, api.OK)
	w.Num(5, 1)
	third, _ := w.End()
	for i := range second[:cap(second)] {
		second[:cap(second)][i] = 98
	}
	w.Num(6, 1)
	if !bytes.Equal(third, append(want, 5)) {
		t.Errorf("an answer changed: %v", third)
	}
	wrote(t, "behind more", &w, append(want, 5, 6), api.OK)
}

// R5: a copy of a Writer writes on by itself, whichever goes ahead.
func TestWriterCopies(t *testing.T) {
	for size := range 40 {
		var w wire.Writer
		var want []byte
		for i := range size {
			w.Num(i, 1)
			want = append(want, byte(i))
		}
		a, b, c := w, w, w
		a.Num(100, 1)
		b.Hash(hashOf(200))
		a.Num(101, 1)
		c.Num(-1, 1)
		wrote(t, "the first", &w, want, api.OK)
		wrote(t, "a copy", &a, append(slices.Clone(want), 100, 101), api.OK)
		wrote(t, "another copy", &b, append(slices.Clone(want), 200, 201, 202, 203, 204, 205, 206, 207), api.OK)
		wrote(t, "a copy with an error", &c, nil, api.ErrArg)
		w.Num(50, 1)
		wrote(t, "the first, more", &w, append(slices.Clone(want), 50), api.OK)
		wrote(t, "a copy, behind that", &a, append(slices.Clone(want), 100, 101), api.OK)
	}
}

// R7: a nil Writer takes nothing, a nil Reader reads noughts; neither panics.
func TestNil(t *testing.T) {
	var w *wire.Writer
	w.Num(1, 1)
	w.Num(1, 0)
	w.Hash(hashOf(1))
	w.Bytes([]byte{1})
	w.Bytes(make([]byte, most+1))
	wrote(t, "nil", w, nil, api.ErrArg)
	var r *wire.Reader
	if r.Num(1) != 0 || r.Num(0) != 0 || r.Num(8) != 0 || r.Hash() != (api.Hash{}) || len(r.Bytes()) != 0 || r.Left() != 0 {
		t.Error("a nil Reader reads something")
	}
}

// P3.2: a Reader reads what a Writer wrote, and tells what is left.
func TestReaderReads(t *testing.T) {
	var w wire.Writer
	for width := 1; width <= 7; width++ {
		w.Num(0, width)
		w.Num(1, width)
		w.Num(0x07060504030201>>(8*(7-width)), width)
		w.Num(1<<(8*width)-1, width)
		w.Num(1<<(8*width-1), width)
	}
	w.Hash(hashOf(250))
	w.Bytes(nil)
	w.Bytes([]byte{1, 0, 255})
	w.Bytes(count(70000))
	w.Num(42, 1)
	b, err := w.End()
	if err != api.OK {
		t.Fatal(err)
	}
	r := wire.NewReader(b)
	left := len(b)
	num := func(width, want int) {
		t.Helper()
		left -= width
		if n := r.Num(width); n != want || r.Left() != left {
			t.Errorf("Num(%d) = %d with %d left, want %d with %d", width, n, r.Left(), want, left)
		}
	}
	list := func(want []byte) {
		t.Helper()
		left -= 4 + len(want)
		if l := r.Bytes(); !bytes.Equal(l, want) || r.Left() != left {
			t.Errorf("Bytes: %d bytes with %d left, want %d with %d", len(l), r.Left(), len(want), left)
		}
	}
	if r.Left() != left {
		t.Errorf("%d are left at the beginning, want %d", r.Left(), left)
	}
	for width := 1; width <= 7; width++ {
		num(width, 0)
		num(width, 1)
		num(width, 0x07060504030201>>(8*(7-width)))
		num(width, 1<<(8*width)-1)
		num(width, 1<<(8*width-1))
	}
	left -= 8
	if h := r.Hash(); h != hashOf(250) || r.Left() != left {
		t.Errorf("Hash: %v with %d left, want %d", h, r.Left(), left)
	}
	list(nil)
	list([]byte{1, 0, 255})
	list(count(70000))
	num(1, 42)
	if r.Left() != 0 {
		t.Errorf("%d are left", r.Left())
	}
}

// stays asks that f panics, with ErrShort where Read has called it, and reads nothing: the rest is read behind it.
func stays(t *testing.T, what string, b []byte, f func(r *wire.Reader)) {
	t.Helper()
	r := wire.NewReader(b)
	for range 2 {
		if !caught(func() { f(r) }) {
			t.Errorf("%s of %d bytes doesn't panic", what, len(b))
		}
		if r.Left() != len(b) {
			t.Errorf("%s of %d bytes: %d are left", what, len(b), r.Left())
		}
	}
	for i, c := range b[:min(len(b), 20)] {
		if n := r.Num(1); n != int(c) {
			t.Errorf("behind %s: byte %d is %d, want %d", what, i, n, c)
		}
	}
	if len(b) <= most {
		if err := wire.Read(b, f); err != api.ErrShort {
			t.Errorf("Read of %s of %d bytes: %v, want ErrShort", what, len(b), err)
		}
	}
}

// P3.2: where it can't, it panics, and has read nothing: neither number nor hash, nor a list's length.
func TestReaderPanics(t *testing.T) {
	for width := 1; width <= 7; width++ {
		for n := range width {
			stays(t, fmt.Sprintf("Num(%d)", width), count(n), func(r *wire.Reader) { r.Num(width) })
		}
	}
	for _, width := range []int{0, -1, -7, 8, 9, 16, 64, 1 << 32, 1<<32 + 1, math.MaxInt64, math.MinInt64, math.MinInt64 + 1} {
		for _, n := range []int{0, 1, 7, 8, 20, 100} {
			stays(t, fmt.Sprintf("Num(%d)", width), count(n), func(r *wire.Reader) { r.Num(width) })
		}
	}
	for n := range 8 {
		stays(t, "Hash", count(n), func(r *wire.Reader) { r.Hash() })
	}
	for _, b := range [][]byte{
		nil, {}, {0}, {0, 0}, {0, 0, 0},
		{1, 0, 0, 0},
		{4, 0, 0, 0},
		{5, 0, 0, 0, 1, 2, 3, 4},
		{8, 0, 0, 0, 1, 2, 3, 4},
		{0, 1, 0, 0, 1},
		{0, 0, 1, 0, 1},
		{0, 0, 0, 1, 1},
		{0, 0, 0, 128, 1},
		{255, 255, 255, 127, 1},
		{255, 255, 255, 255, 1},
		{252, 255, 255, 255, 1, 2, 3, 4},
	} {
		stays(t, fmt.Sprintf("Bytes of %v", b), b, func(r *wire.Reader) { r.Bytes() })
	}
	r := new(wire.Reader)
	if r.Left() != 0 || !caught(func() { r.Num(1) }) || !caught(func() { r.Hash() }) || !caught(func() { r.Bytes() }) {
		t.Error("a Reader of nothing reads something")
	}
}

// P3.2: behind a panic in the midst it reads on where it stood.
func TestReaderReadsOn(t *testing.T) {
	r := wire.NewReader([]byte{1, 2, 0, 0, 0, 9, 8, 7})
	if n := r.Num(1); n != 1 {
		t.Errorf("Num(1) = %d", n)
	}
	for _, f := range []func(){func() { r.Hash() }, func() { r.Num(0) }, func() { r.Num(8) }, func() { r.Num(9) }} {
		if !caught(f) || r.Left() != 7 {
			t.Errorf("%d are left, want 7", r.Left())
		}
	}
	if l := r.Bytes(); !bytes.Equal(l, []byte{9, 8}) || r.Left() != 1 {
		t.Errorf("Bytes: %v with %d left", l, r.Left())
	}
	if !caught(func() { r.Bytes() }) || r.Left() != 1 || r.Num(1) != 7 || r.Left() != 0 {
		t.Error("the last byte isn't read")
	}
}

// P3.2, R4: a Reader keeps no list that came in, and hands out none of its own.
func TestReaderLists(t *testing.T) {
	room := []byte{2, 0, 0, 0, 5, 6, 3, 0, 0, 0, 7, 8, 9, 77, 78}
	want := slices.Clone(room)
	r := wire.NewReader(room[:13])
	first := r.Bytes()
	for i := range first[:cap(first)] {
		first[:cap(first)][i] = 99
	}
	if !bytes.Equal(room, want) {
		t.Errorf("the list is %v", room)
	}
	for i := range room {
		room[i] = 0
	}
	second := r.Bytes()
	if !bytes.Equal(second, []byte{7, 8, 9}) {
		t.Errorf("Bytes: %v", second)
	}
	for i := range second[:cap(second)] {
		second[:cap(second)][i] = 99
	}
	if !bytes.Equal(room, make([]byte, len(room))) {
		t.Errorf("the list is %v", room)
	}
}

// R4: Read reads what came in, whatever f does to it.
func TestReadLists(t *testing.T) {
	room := []byte{2, 0, 0, 0, 5, 6, 4, 77, 78}
	var got []byte
	err := wire.Read(room[:7], func(r *wire.Reader) {
		got = r.Bytes()
		for i := range got[:cap(got)] {
			got[:cap(got)][i] = 99
		}
		if !bytes.Equal(room, []byte{2, 0, 0, 0, 5, 6, 4, 77, 78}) {
			t.Errorf("the list is %v", room)
		}
		room[6] = 50
		if n := r.Num(1); n != 4 {
			t.Errorf("Num(1) = %d, want 4", n)
		}
	})
	if err != api.OK || !bytes.Equal(room, []byte{2, 0, 0, 0, 5, 6, 50, 77, 78}) {
		t.Errorf("Read: %v, %v", err, room)
	}
}

// R5: a copy of a Reader reads on by itself.
func TestReaderCopies(t *testing.T) {
	r := wire.NewReader([]byte{1, 2, 3})
	c := *r
	if r.Num(2) != 0x0201 || c.Left() != 3 || c.Num(1) != 1 || r.Left() != 1 || c.Num(1) != 2 {
		t.Error("a copy doesn't read on by itself")
	}
}

// P3.2: OK where f read all, once called; none is nothing.
func TestRead(t *testing.T) {
	calls, a, b := 0, 0, 0
	read := func(r *wire.Reader) {
		calls++
		if r.Left() != 3 {
			t.Errorf("%d are left, want 3", r.Left())
		}
		a, b = r.Num(1), r.Num(2)
	}
	if err := wire.Read([]byte{1, 2, 3}, read); err != api.OK || calls != 1 || a != 1 || b != 0x0302 {
		t.Errorf("Read: %v, %d calls, %d, %d", err, calls, a, b)
	}
	for _, none := range [][]byte{nil, {}} {
		if err := wire.Read(none, func(r *wire.Reader) { calls++ }); err != api.OK {
			t.Errorf("Read of nothing: %v", err)
		}
		if err := wire.Read(none, nil); err != api.OK {
			t.Errorf("Read of nothing by none: %v", err)
		}
	}
	if calls != 3 {
		t.Errorf("%d calls, want 3", calls)
	}
}

// P3.2: as many as MaxBytes are read; of one more f is not called, and none is too long, too.
func TestReadLong(t *testing.T) {
	whole, err := fill(most).End()
	if err != api.OK {
		t.Fatal(err)
	}
	if err := wire.Read(whole, func(r *wire.Reader) { r.Bytes() }); err != api.OK {
		t.Errorf("Read of MaxBytes: %v", err)
	}
	if err := wire.Read(whole, nil); err != api.ErrForm {
		t.Errorf("Read of MaxBytes by none: %v", err)
	}
	for _, more := range []int{1, 2, most, 1 << 24} {
		calls := 0
		long := make([]byte, most+more)
		for _, f := range []func(r *wire.Reader){
			func(r *wire.Reader) { calls++ },
			func(r *wire.Reader) { calls++; r.Num(0) },
			func(r *wire.Reader) { calls++; panic("no") },
			nil,
		} {
			if err := wire.Read(long, f); err != api.ErrLong || calls != 0 {
				t.Errorf("Read of %d: %v, %d calls", len(long), err, calls)
			}
		}
	}
	// The limit is Read's alone.
	r := wire.NewReader(make([]byte, most+1))
	if r.Left() != most+1 {
		t.Errorf("NewReader of MaxBytes + 1: %d are left", r.Left())
	}
	if n := len(wire.NewReader(append([]byte{1, 0, 2, 0}, make([]byte, most+1)...)).Bytes()); n != most+1 {
		t.Errorf("Bytes of MaxBytes + 1: %d", n)
	}
}

// P3.2: bytes that are left are ErrForm, by none too.
func TestReadLeft(t *testing.T) {
	for n := 1; n < 10; n++ {
		if err := wire.Read(count(n), nil); err != api.ErrForm {
			t.Errorf("Read of %d by none: %v, want ErrForm", n, err)
		}
		for read := range n {
			err := wire.Read(count(n), func(r *wire.Reader) {
				for range read {
					r.Num(1)
				}
			})
			if err != api.ErrForm {
				t.Errorf("Read of %d of %d: %v, want ErrForm", read, n, err)
			}
		}
	}
}

// others are panics that are no Reader's.
func others() map[string]func() {
	var none []int
	var table map[int]int
	var place *int
	var thing any = "text"
	var inner func()
	return map[string]func(){
		"a text":             func() { panic("text") },
		"an empty text":      func() { panic("") },
		"the Reader's words": func() { panic("wire: the bytes end, or such a width may not be") },
		"a number":           func() { panic(1) },
		"nil":                func() { panic(nil) },
		"no error":           func() { panic(error(nil)) },
		"an error":           func() { panic(errors.New("short")) },
		"OK":                 func() { panic(api.OK) },
		"ErrShort":           func() { panic(api.ErrShort) },
		"ErrForm":            func() { panic(api.ErrForm) },
		"an error ErrShort":  func() { panic(error(api.ErrShort)) },
		"a wrapped ErrShort": func() { panic(fmt.Errorf("read: %w", api.ErrShort)) },
		"a struct":           func() { panic(struct{}{}) },
		"a list":             func() { panic([]byte{1}) },
		"a function":         func() { panic(func() {}) },
		"a Reader":           func() { panic(wire.NewReader(nil)) },
		"an index":           func() { _ = none[len(none)] },
		"a piece":            func() { _ = none[:len(none)+1] },
		"an array":           func() { _ = [8]int(none) },
		"a length":           func() { _ = make([]byte, len(none)-1) },
		"a map that is none": func() { table[1] = 1 },
		"a place of nothing": func() { *place = 1 },
		"a division":         func() { _ = 1 / len(none) },
		"another type":       func() { _ = thing.(int) },
		"no function":        func() { inner() },
		"what was recovered": func() {
			defer func() { _ = recover(); panic("again") }()
			wire.NewReader(nil).Hash()
		},
		"behind a Reader's": func() {
			defer func() { panic("late") }()
			wire.NewReader(nil).Hash()
		},
		"its text": func() {
			defer func() { panic(fmt.Sprint(recover())) }()
			wire.NewReader(nil).Hash()
		},
	}
}

// P3.2: a panic that is no Reader's is ErrForm, whether bytes are left or not.
func TestReadOtherPanics(t *testing.T) {
	for what, f := range others() {
		if err := wire.Read(nil, func(*wire.Reader) { f() }); err != api.ErrForm {
			t.Errorf("a panic with %s, none left: %v, want ErrForm", what, err)
		}
		if err := wire.Read([]byte{1, 2}, func(r *wire.Reader) { r.Num(1); f() }); err != api.ErrForm {
			t.Errorf("a panic with %s, one left: %v, want ErrForm", what, err)
		}
		if err := wire.Read([]byte{1}, func(r *wire.Reader) { r.Num(1); f() }); err != api.ErrForm {
			t.Errorf("a panic with %s, all read: %v, want ErrForm", what, err)
		}
	}
}

// P3.2: a panic with nil is one, also where the runtime is told to let recover answer nil for it.
func TestReadNilPanics(t *testing.T) {
	for _, set := range []string{"panicnil=0", "panicnil=1"} {
		t.Setenv("GODEBUG", set)
		if err := wire.Read(nil, func(*wire.Reader) { panic(nil) }); err != api.ErrForm {
			t.Errorf("a panic with nil, %s: %v, want ErrForm", set, err)
		}
	}
}

// P3.2: a Reader's panic is ErrShort, whichever Reader's, however deep, and with bytes left.
func TestReadShort(t *testing.T) {
	for what, f := range map[string]func(r *wire.Reader){
		"a number":         func(r *wire.Reader) { r.Num(4) },
		"a hash":           func(r *wire.Reader) { r.Hash() },
		"a list":           func(r *wire.Reader) { r.Bytes() },
		"a width":          func(r *wire.Reader) { r.Num(8) },
		"behind others":    func(r *wire.Reader) { r.Num(1); r.Num(2); r.Num(1) },
		"another Reader's": func(r *wire.Reader) { r.Num(3); wire.NewReader(nil).Num(1) },
		"once more": func(r *wire.Reader) {
			defer func() { panic(recover()) }()
			r.Hash()
		},
		"over another": func(r *wire.Reader) {
			defer func() { r.Hash() }()
			panic("first")
		},
		"deep": func(r *wire.Reader) { deep(100, func() { r.Hash() }) },
		"behind a Read": func(r *wire.Reader) {
			wire.Read(nil, nil)
			r.Hash()
		},
	} {
		if err := wire.Read([]byte{9, 9, 9}, f); err != api.ErrShort {
			t.Errorf("%s: %v, want ErrShort", what, err)
		}
	}
}

// deep calls f that many calls down.
func deep(calls int, f func()) {
	if calls > 0 {
		deep(calls-1, f)
		return
	}
	f()
}

// P3.2: what f recovered itself doesn't come to Read: it hangs on what is left.
func TestReadRecovered(t *testing.T) {
	mended := func(r *wire.Reader) {
		caught(func() { r.Hash() })
		caught(func() { panic("no") })
	}
	if err := wire.Read([]byte{1}, mended); err != api.ErrForm {
		t.Errorf("mended, one left: %v, want ErrForm", err)
	}
	if err := wire.Read([]byte{1}, func(r *wire.Reader) { mended(r); r.Num(1) }); err != api.OK {
		t.Errorf("mended, none left: %v, want OK", err)
	}
}

// P3.2: the Read that is nearest recovers; the one around it sees an end.
func TestReadInRead(t *testing.T) {
	var short, form, well api.Errno
	err := wire.Read([]byte{1, 0, 0, 0, 7, 5}, func(r *wire.Reader) {
		short = wire.Read(r.Bytes(), func(s *wire.Reader) { s.Num(2) })
		form = wire.Read(nil, func(*wire.Reader) { panic("no") })
		well = wire.Read([]byte{1}, func(s *wire.Reader) { s.Num(1) })
		r.Num(1)
	})
	if err != api.OK || short != api.ErrShort || form != api.ErrForm || well != api.OK {
		t.Errorf("%v, %v, %v, %v", err, short, form, well)
	}
}

// The chapter's example.
func TestExamples(t *testing.T) {
	var w wire.Writer
	w.Num(258, 2)
	w.Bytes([]byte{7})
	wrote(t, "Num(258, 2), Bytes(7)", &w, []byte{2, 1, 1, 0, 0, 0, 7}, api.OK)
}
