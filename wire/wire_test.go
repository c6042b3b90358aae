package wire_test

import (
	"bytes"
	"math"
	"slices"
	"testing"

	"murmuration/api"
	"murmuration/wire"
)

var numbers = []uint64{0, 1, 5, 127, 128, 255, 256, 300, 65535, 65536, 1 << 24, 1<<32 - 1, 1 << 32, 1 << 40, 1 << 48, 1<<56 - 1, 1 << 56, 1 << 63, math.MaxUint64}

// P3.1: the examples.
func TestForms(t *testing.T) {
	for n, want := range map[uint64][]byte{0: {0}, 5: {1, 5}, 300: {2, 1, 44}, math.MaxUint64: {8, 255, 255, 255, 255, 255, 255, 255, 255}} {
		if got := wire.AppendUint(nil, n); !bytes.Equal(got, want) {
			t.Errorf("AppendUint of %d: %v", n, got)
		}
	}
	if got := wire.AppendList(nil, [][]byte{[]byte("ab"), nil}); !bytes.Equal(got, []byte{1, 2, 1, 2, 'a', 'b', 0}) {
		t.Errorf("AppendList: %v", got)
	}
	if got := wire.AppendList(nil, nil); !bytes.Equal(got, []byte{0}) {
		t.Errorf("AppendList of none: %v", got)
	}
	if got := wire.AppendBytes([]byte{9}, []byte("x")); !bytes.Equal(got, []byte{9, 1, 1, 'x'}) {
		t.Errorf("AppendBytes: %v", got)
	}
}

// P3.1: b and what it has behind its end stay, and nothing is shared.
func TestAppendKeeps(t *testing.T) {
	whole := []byte{1, 2, 3, 4, 5, 6, 7, 8, 9, 10}
	b := whole[:3]
	for _, out := range [][]byte{wire.AppendUint(b, 300), wire.AppendBytes(b, []byte("ab")), wire.AppendList(b, [][]byte{{1}})} {
		if !bytes.Equal(out[:3], []byte{1, 2, 3}) {
			t.Errorf("%v", out)
		}
		out[0] = 77
	}
	if !bytes.Equal(whole, []byte{1, 2, 3, 4, 5, 6, 7, 8, 9, 10}) {
		t.Errorf("%v", whole)
	}
}

// P3.2: what is written is read, wherever it stands; forms have the numbers' order.
func TestUint(t *testing.T) {
	var last []byte
	for _, n := range numbers {
		for _, ahead := range []int{0, 1, 7} {
			b := wire.AppendUint(make([]byte, ahead), n)
			end := len(b)
			b = append(b, 200)
			if got, next, e := wire.Uint(b, ahead); got != n || next != end || e != api.OK {
				t.Errorf("Uint of %d: %d, %d, %d", n, got, next, e)
			}
			for cut := ahead; cut < end; cut++ {
				if got, next, e := wire.Uint(b[:cut], ahead); got != 0 || next != 0 || e != api.ErrShort {
					t.Errorf("Uint of %d cut at %d: %d, %d, %d", n, cut, got, next, e)
				}
			}
		}
		form := wire.AppendUint(nil, n)
		if last != nil && bytes.Compare(last, form) >= 0 {
			t.Errorf("the form of %d is not greater than the one ahead", n)
		}
		last = form
	}
}

// P3.2: wrong places and forms, the first fault that is met.
func TestUintWrong(t *testing.T) {
	for _, x := range []struct {
		b    []byte
		at   int
		want api.Errno
	}{
		{nil, 0, api.ErrShort}, {nil, 1, api.ErrArg}, {nil, -1, api.ErrArg}, {[]byte{0}, 1, api.ErrShort}, {[]byte{0}, 2, api.ErrArg},
		{[]byte{0}, math.MinInt, api.ErrArg}, {[]byte{0}, math.MaxInt, api.ErrArg},
		{[]byte{2, 0, 5}, 0, api.ErrForm}, {[]byte{9}, 0, api.ErrForm}, {[]byte{255}, 0, api.ErrForm}, {[]byte{2, 1}, 0, api.ErrShort},
		{[]byte{2, 0}, 0, api.ErrForm}, {[]byte{1, 0}, 0, api.ErrForm}, {[]byte{1}, 0, api.ErrShort},
		{[]byte{9, 0, 0, 0, 0, 0, 0, 0, 0, 1}, 0, api.ErrForm}, {[]byte{8, 1, 2, 3, 4, 5, 6, 7}, 0, api.ErrShort},
	} {
		if n, next, e := wire.Uint(x.b, x.at); n != 0 || next != 0 || e != x.want {
			t.Errorf("Uint of %v at %d: %d, %d, %d", x.b, x.at, n, next, e)
		}
	}
}

// P3.3: rows, up to what they may have.
func TestBytes(t *testing.T) {
	for _, n := range []int{0, 1, 2, 255, 256, 1000} {
		row := bytes.Repeat([]byte{7}, n)
		b := append(wire.AppendBytes([]byte{1, 2}, row), 3)
		x, next, e := wire.Bytes(b, 2, n)
		if !bytes.Equal(x, row) || next != len(b)-1 || e != api.OK {
			t.Errorf("Bytes of %d: %d, %d", n, next, e)
		}
		if n > 0 {
			x[0] = 99
			if b[next-n] == 99 {
				t.Error("Bytes shares memory")
			}
			if _, _, e := wire.Bytes(b[:next-1], 2, n); e != api.ErrShort {
				t.Errorf("Bytes of %d cut: %d", n, e)
			}
		}
		if x, next, e := wire.Bytes(b, 2, n-1); x != nil || next != 0 || e != api.ErrLong {
			t.Errorf("Bytes of %d, most %d: %d", n, n-1, e)
		}
	}
	huge := wire.AppendUint(nil, math.MaxUint64)
	for _, x := range []struct {
		b        []byte
		at, most int
		want     api.Errno
	}{
		{huge, 0, math.MaxInt, api.ErrLong}, {wire.AppendUint(nil, math.MaxInt), 0, math.MaxInt, api.ErrShort}, {huge, 10, 5, api.ErrArg}, {huge, -1, 5, api.ErrArg},
		{[]byte{0}, 0, -1, api.ErrLong}, {[]byte{0}, 0, math.MinInt, api.ErrLong}, {[]byte{1, 5}, 0, 4, api.ErrLong}, {[]byte{1, 5}, 0, 5, api.ErrShort}, {[]byte{9}, 0, 5, api.ErrForm}, {nil, 0, 5, api.ErrShort},
	} {
		if row, next, e := wire.Bytes(x.b, x.at, x.most); row != nil || next != 0 || e != x.want {
			t.Errorf("Bytes of %v: %d, %d", x.b, next, e)
		}
	}
}

// P3.3: lists.
func TestList(t *testing.T) {
	for _, l := range [][][]byte{nil, {nil}, {[]byte("ab"), nil}, {{1}, {2}, {3, 4, 5}}} {
		b := append(wire.AppendList([]byte{8}, l), 9)
		got, next, e := wire.List(b, 1, len(l), 3)
		if !slices.EqualFunc(got, l, bytes.Equal) || next != len(b)-1 || e != api.OK {
			t.Errorf("List of %v: %v, %d, %d", l, got, next, e)
		}
		if got, next, e := wire.List(b, 1, len(l)-1, 3); got != nil || next != 0 || e != api.ErrLong {
			t.Errorf("List of %v, one less: %v, %d, %d", l, got, next, e)
		}
		for cut := 1; cut < len(b)-1; cut++ {
			if got, next, e := wire.List(b[:cut], 1, 9, 9); got != nil || next != 0 || e != api.ErrShort {
				t.Errorf("List of %v cut at %d: %v, %d, %d", l, cut, got, next, e)
			}
		}
	}
	for _, x := range []struct {
		b          []byte
		many, most int
		want       api.Errno
	}{
		{[]byte{1, 2, 1, 3, 1, 1, 1, 9}, 2, 2, api.ErrLong}, {[]byte{1, 2, 0, 9}, 2, 2, api.ErrForm}, {[]byte{1, 2, 9, 1}, 2, 2, api.ErrForm},
		{wire.AppendUint(nil, math.MaxUint64), math.MaxInt, 2, api.ErrLong}, {wire.AppendUint(nil, math.MaxInt), math.MaxInt, 2, api.ErrShort}, {[]byte{0}, -1, 2, api.ErrLong},
	} {
		if l, next, e := wire.List(x.b, 0, x.many, x.most); l != nil || next != 0 || e != x.want {
			t.Errorf("List of %v: %v, %d, %d", x.b, l, next, e)
		}
	}
	if _, _, e := wire.List([]byte{0}, 2, 1, 1); e != api.ErrArg {
		t.Error(e)
	}
}
