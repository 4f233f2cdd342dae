package opaque

import (
	"bytes"
	"fmt"
	"math"
	"slices"
	"testing"

	"wharfinger/api"
	"wharfinger/probe"
)

// forms: bytes, and how they are put behind their length, written out by hand.
var forms = []struct{ bytes, put string }{
	{"", "\x00\x00\x00\x00"},
	{"a", "\x00\x00\x00\x01a\x00\x00\x00"},
	{"ab", "\x00\x00\x00\x02ab\x00\x00"},
	{"abc", "\x00\x00\x00\x03abc\x00"},
	{"abcd", "\x00\x00\x00\x04abcd"},
	{"abcde", "\x00\x00\x00\x05abcde\x00\x00\x00"},
	{"\x00", "\x00\x00\x00\x01\x00\x00\x00\x00"},
	{"\x00\x00\x00\x00", "\x00\x00\x00\x04\x00\x00\x00\x00"},
	{"\xff\x80\x00\xfe\x01\x00", "\x00\x00\x00\x06\xff\x80\x00\xfe\x01\x00\x00\x00"},
}

// fixed: likewise, without the length.
func fixed(put string) string { return put[4:] }

// sizes: lengths about the edges of a unit, of a byte and of two, and about MaxMessage.
var sizes = []int{0, 1, 2, 3, 4, 5, 6, 7, 8, 9, 63, 64, 65, 255, 256, 257, 258, 259, 260, 4095, 4096, 4097, 65533, 65534, 65535, api.MaxMessage}

// wantGet asks Get, and says what is wrong.
func wantGet(t *testing.T, b string, most int, want string, many int, err api.Errno) {
	t.Helper()
	if got, n, e := Get([]byte(b), most); string(got) != want || n != many || e != err {
		t.Errorf("Get(%q, %d) = %q, %d, %d; want %q, %d, %d", b, most, got, n, e, want, many, err)
	}
}

// wantFixed asks GetFixed, and says what is wrong.
func wantFixed(t *testing.T, b string, size int, want string, many int, err api.Errno) {
	t.Helper()
	if got, n, e := GetFixed([]byte(b), size); string(got) != want || n != many || e != err {
		t.Errorf("GetFixed(%q, %d) = %q, %d, %d; want %q, %d, %d", b, size, got, n, e, want, many, err)
	}
}

// P2.1: from 0 on, and up to the greatest number there is.
func TestPad(t *testing.T) {
	for n, want := range []int{0, 3, 2, 1, 0, 3, 2, 1, 0, 3, 2, 1, 0} {
		if k := Pad(n); k != want {
			t.Errorf("Pad(%d) = %d, want %d", n, k, want)
		}
	}
	for n := range 2*api.MaxMessage + 9 {
		if k := Pad(n); k < 0 || k > 3 || (n+k)%4 != 0 {
			t.Fatalf("Pad(%d) = %d", n, k)
		}
	}
	for k, n := range []int{math.MaxInt - 3, math.MaxInt - 2, math.MaxInt - 1, math.MaxInt} {
		if want := (4 - k) % 4; Pad(n) != want {
			t.Errorf("Pad(%d) = %d, want %d", n, Pad(n), want)
		}
	}
}

// P2.1: nothing stands behind fewer bytes than none.
func TestPadBelow(t *testing.T) {
	for _, n := range []int{-1, -2, -3, -4, -5, -6, -7, -8, -65537, math.MinInt32, math.MinInt, math.MinInt + 1, math.MinInt + 2, math.MinInt + 3} {
		if k := Pad(n); k != 0 {
			t.Errorf("Pad(%d) = %d, want 0", n, k)
		}
	}
}

// P2.2: Put.
func TestPut(t *testing.T) {
	for _, c := range forms {
		if b := Put([]byte(c.bytes)); string(b) != c.put {
			t.Errorf("Put(%q) = %q, want %q", c.bytes, b, c.put)
		}
	}
	if b := Put(nil); string(b) != "\x00\x00\x00\x00" {
		t.Errorf("Put(nil) = %q", b)
	}
}

// P2.2: a length above one byte, and above two.
func TestPutLongOnes(t *testing.T) {
	for size, ahead := range map[int]string{255: "\x00\x00\x00\xff", 256: "\x00\x00\x01\x00", 258: "\x00\x00\x01\x02", 65536: "\x00\x01\x00\x00", 16909060: "\x01\x02\x03\x04"} {
		in := probe.Filled(size)
		want := ahead + string(in) + "\x00\x00\x00"[:Pad(size)]
		if b := Put(in); string(b) != want {
			t.Errorf("Put(%d bytes) = %d bytes, beginning %v", size, len(b), b[:4])
		}
		wantLong := func(got []byte, n int, e api.Errno) {
			if !bytes.Equal(got, in) || n != len(want) || e != api.OK {
				t.Errorf("Get(%d bytes) = %d bytes, %d, %d", size, len(got), n, e)
			}
		}
		wantLong(Get([]byte(want), size))
		wantLong(Get([]byte(want), math.MaxInt))
	}
}

// P2.2: Get, with anything behind, and with bounds from the edge on.
func TestGet(t *testing.T) {
	for _, c := range forms {
		for _, more := range probe.Behind() {
			for _, most := range []int{len(c.bytes), len(c.bytes) + 1, api.MaxMessage, math.MaxUint32, math.MaxInt} {
				wantGet(t, c.put+more, most, c.bytes, len(c.put), api.OK)
			}
		}
	}
}

// P2.2: a number above the bound is ErrLimit, and each is above one below 0.
func TestGetLimit(t *testing.T) {
	for _, c := range forms {
		for _, most := range []int{len(c.bytes) - 1, -1, -2, -4, -65536, math.MinInt32, math.MinInt} {
			if most < len(c.bytes) {
				wantGet(t, c.put, most, "", 0, api.ErrLimit)
			}
		}
	}
	wantGet(t, "\xff\xff\xff\xff", math.MaxUint32-1, "", 0, api.ErrLimit)
	wantGet(t, "\x80\x00\x00\x00", math.MaxInt32, "", 0, api.ErrLimit)
	wantGet(t, "\xff\xff\xff\xff", -1, "", 0, api.ErrLimit)
}

// P2.2: too few bytes, wherever they end; their spare room does not count.
func TestGetShort(t *testing.T) {
	for _, c := range forms {
		whole := []byte(c.put)
		for size := range len(whole) {
			if got, n, e := Get(whole[:size], 9); len(got) != 0 || n != 0 || e != api.ErrShort {
				t.Errorf("Get(%q, the first %d) = %q, %d, %d; want ErrShort", whole, size, got, n, e)
			}
		}
	}
	for _, b := range []string{"\xff\xff\xff\xff", "\xff\xff\xff\xffabcd", "\xff\xff\xff\xfdabcd", "\x80\x00\x00\x00abcd", "\x7f\xff\xff\xffabcd"} {
		wantGet(t, b, math.MaxUint32, "", 0, api.ErrShort)
		wantGet(t, b, math.MaxInt, "", 0, api.ErrShort)
	}
}

// P2.2: a byte of the padding that is not 0, at every place.
func TestGetForm(t *testing.T) {
	for _, c := range forms {
		for bad := range probe.Spoilt(c.put, Pad(len(c.bytes))) {
			for _, more := range probe.Behind() {
				wantGet(t, bad+more, 9, "", 0, api.ErrForm)
			}
		}
	}
}

// P2.2 and R2: the first error that the chapter names, where several apply.
func TestGetOrder(t *testing.T) {
	wantGet(t, "\x00\x00\x09", -1, "", 0, api.ErrShort)
	wantGet(t, "", math.MinInt, "", 0, api.ErrShort)
	wantGet(t, "\x00\x00\x00\x02a", 1, "", 0, api.ErrLimit)
	wantGet(t, "\x00\x00\x00\x02ab\x00\x01", 1, "", 0, api.ErrLimit)
	wantGet(t, "\x00\x00\x00\x01a\x01", 1, "", 0, api.ErrShort)
	wantGet(t, "\x00\x00\x00\x01a\x01\x01", 1, "", 0, api.ErrShort)
}

// P2.3: PutFixed.
func TestPutFixed(t *testing.T) {
	for _, c := range forms {
		if b := PutFixed([]byte(c.bytes)); string(b) != fixed(c.put) {
			t.Errorf("PutFixed(%q) = %q, want %q", c.bytes, b, fixed(c.put))
		}
	}
	if b := PutFixed(nil); len(b) != 0 {
		t.Errorf("PutFixed(nil) = %q", b)
	}
}

// P2.3: GetFixed, with anything behind.
func TestGetFixed(t *testing.T) {
	for _, c := range forms {
		for _, more := range probe.Behind() {
			wantFixed(t, fixed(c.put)+more, len(c.bytes), c.bytes, len(fixed(c.put)), api.OK)
		}
	}
}

// P2.3: so many bytes may be asked for as a message has, and no more.
func TestGetFixedArg(t *testing.T) {
	big := probe.Filled(api.MaxMessage + 8)
	for _, size := range []int{-1, -2, -3, -4, math.MinInt32, math.MinInt, api.MaxMessage + 1, api.MaxMessage + 4, math.MaxUint32, math.MaxInt - 1, math.MaxInt} {
		for _, b := range [][]byte{nil, {1}, big} {
			if got, n, e := GetFixed(b, size); len(got) != 0 || n != 0 || e != api.ErrArg {
				t.Errorf("GetFixed(%d bytes, %d) = %d bytes, %d, %d; want ErrArg", len(b), size, len(got), n, e)
			}
		}
	}
	got, n, e := GetFixed(big, api.MaxMessage)
	if !bytes.Equal(got, big[:api.MaxMessage]) || n != api.MaxMessage || e != api.OK {
		t.Errorf("GetFixed(.., MaxMessage) = %d bytes, %d, %d", len(got), n, e)
	}
}

// P2.3: too few bytes, wherever they end; ahead of a wrong padding.
func TestGetFixedShort(t *testing.T) {
	for _, c := range forms {
		whole := []byte(fixed(c.put))
		for size := range len(whole) {
			if got, n, e := GetFixed(whole[:size], len(c.bytes)); len(got) != 0 || n != 0 || e != api.ErrShort {
				t.Errorf("GetFixed(%q, the first %d) = %q, %d, %d; want ErrShort", whole, size, got, n, e)
			}
		}
	}
	wantFixed(t, "", 1, "", 0, api.ErrShort)
	wantFixed(t, "", api.MaxMessage, "", 0, api.ErrShort)
	wantFixed(t, "a\x01\x01", 1, "", 0, api.ErrShort)
	wantFixed(t, "ab\x01", 2, "", 0, api.ErrShort)
}

// P2.3: a byte of the padding that is not 0, at every place.
func TestGetFixedForm(t *testing.T) {
	for _, c := range forms {
		for bad := range probe.Spoilt(fixed(c.put), Pad(len(c.bytes))) {
			for _, more := range probe.Behind() {
				wantFixed(t, bad+more, len(c.bytes), "", 0, api.ErrForm)
			}
		}
	}
	wantFixed(t, "abcd", 1, "", 0, api.ErrForm)
}

// P2.4 and P0.1: what is put is got, whatever stands behind it; all is a multiple of four bytes.
func TestPutIsGot(t *testing.T) {
	for _, size := range sizes {
		for _, in := range [][]byte{probe.Filled(size), make([]byte, size)} {
			put, bare := Put(in), PutFixed(in)
			if len(put)%4 != 0 || len(bare)%4 != 0 {
				t.Errorf("of %d bytes: %d with their length, %d without", size, len(put), len(bare))
			}
			for _, more := range probe.Behind() {
				if got, n, e := Get(append(slices.Clone(put), more...), size); !bytes.Equal(got, in) || n != len(put) || e != api.OK {
					t.Errorf("Get(Put(%d bytes)) = %d bytes, %d, %d", size, len(got), n, e)
				}
				if got, n, e := GetFixed(append(slices.Clone(bare), more...), size); !bytes.Equal(got, in) || n != len(bare) || e != api.OK {
					t.Errorf("GetFixed(PutFixed(%d bytes)) = %d bytes, %d, %d", size, len(got), n, e)
				}
			}
		}
	}
}

// gotIsPut says what is wrong, if something that is got of bytes was not put so. (P2.4, P0.1)
func gotIsPut(b []byte, size int) string {
	if got, n, e := Get(b, size); e == api.OK && (n%4 != 0 || len(got) > size || !bytes.Equal(Put(got), b[:n])) {
		return fmt.Sprintf("Get(%v, %d) = %v, %d, which is put as %v", b, size, got, n, Put(got))
	} else if e != api.OK && (got != nil || n != 0) {
		return fmt.Sprintf("Get(%v, %d) = %v, %d beside %d", b, size, got, n, e)
	}
	if got, n, e := GetFixed(b, size); e == api.OK && (n%4 != 0 || len(got) != size || !bytes.Equal(PutFixed(got), b[:n])) {
		return fmt.Sprintf("GetFixed(%v, %d) = %v, %d, which is put as %v", b, size, got, n, PutFixed(got))
	} else if e != api.OK && (got != nil || n != 0) {
		return fmt.Sprintf("GetFixed(%v, %d) = %v, %d beside %d", b, size, got, n, e)
	}
	return ""
}

// P2.4 and P0.1: what is got is put as the bytes that it had, at every byte of every place.
func TestGotIsPut(t *testing.T) {
	for _, c := range forms {
		for b := range probe.EveryByte(c.put + "behind") {
			for size := -1; size < 9; size++ {
				if wrong := gotIsPut(b, size); wrong != "" {
					t.Fatal(wrong)
				}
			}
		}
	}
}

// P2.4, R1, R2: any bytes, any number.
func FuzzGotIsPut(f *testing.F) {
	for _, c := range forms {
		f.Add([]byte(c.put), len(c.bytes))
		f.Add([]byte(fixed(c.put)), len(c.bytes))
	}
	f.Add([]byte("\xff\xff\xff\xff"), math.MaxInt)
	f.Add([]byte(nil), math.MinInt)
	f.Fuzz(func(t *testing.T, b []byte, size int) {
		if wrong := gotIsPut(b, size); wrong != "" {
			t.Fatal(wrong)
		}
		if got, _, e := Get(Put(b), len(b)); !bytes.Equal(got, b) || e != api.OK {
			t.Fatalf("Get(Put(%v)) = %v, %d", b, got, e)
		}
	})
}

// asked: every call that is handed bytes, with what it answers.
var asked = map[string]func(b []byte, n int) []byte{
	"Put":      func(b []byte, _ int) []byte { return Put(b) },
	"PutFixed": func(b []byte, _ int) []byte { return PutFixed(b) },
	"Get":      func(b []byte, n int) []byte { got, _, _ := Get(b, n); return got },
	"GetFixed": func(b []byte, n int) []byte { got, _, _ := GetFixed(b[min(4, len(b)):], n); return got },
}

// R4: what is handed in is not changed, its spare room neither.
func TestHandedInStays(t *testing.T) {
	for name, ask := range asked {
		for size := range 17 {
			room := []byte{0, 0, 0, 5, 1, 2, 3, 4, 5, 0, 0, 0, 9, 9, 9, 9, 9, 9, 9, 9}
			was := slices.Clone(room)
			ask(room[:size], 5)
			if !bytes.Equal(room, was) {
				t.Errorf("%s of %d bytes: %v, was %v", name, size, room, was)
			}
		}
	}
}

// R4: an answer is new memory, spare room too: it shares none with what was handed in, nor with another answer.
func TestAnswersShareNothing(t *testing.T) {
	for name, ask := range asked {
		for size := range 6 {
			in := append(Put(probe.Filled(size)), 9, 9, 9, 9)
			was := slices.Clone(in)
			one, two := ask(in, size), ask(in, size)
			want := slices.Clone(two)
			probe.Scribble(one)
			if !bytes.Equal(in, was) || !bytes.Equal(two, want) || !bytes.Equal(ask(in, size), want) {
				t.Errorf("%s of %d: an answer that was written over changed something else", name, size)
			}
			probe.Scribble(in)
			if !bytes.Equal(two, want) {
				t.Errorf("%s of %d: the answer changed with what was handed in", name, size)
			}
		}
	}
}

// R4: no list is as an empty one.
func TestNone(t *testing.T) {
	for _, none := range [][]byte{nil, {}} {
		if got, n, e := Get(none, 9); len(got) != 0 || n != 0 || e != api.ErrShort {
			t.Errorf("Get(none) = %v, %d, %d", got, n, e)
		}
		if got, n, e := GetFixed(none, 0); len(got) != 0 || n != 0 || e != api.OK {
			t.Errorf("GetFixed(none, 0) = %v, %d, %d", got, n, e)
		}
		if b := PutFixed(none); len(b) != 0 {
			t.Errorf("PutFixed(none) = %v", b)
		}
	}
}

// What is handed on inside has no room behind it that an append could write into.
func TestTakenHasNoRoom(t *testing.T) {
	b := []byte("abcde\x00\x00\x00behind")
	piece, e := taken(b, 5)
	if e != api.OK || string(piece) != "abcde" || cap(piece) != 5 {
		t.Fatalf("%q, room %d, %d", piece, cap(piece), e)
	}
}
