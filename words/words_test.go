package words

import (
	"bytes"
	"fmt"
	"math"
	"slices"
	"testing"

	"wharfinger/api"
	"wharfinger/probe"
)

// wordsTold: numbers of four bytes and their form, written out by hand.
var wordsTold = []struct {
	n    uint32
	form []byte
}{
	{0, []byte{0, 0, 0, 0}},
	{1, []byte{0, 0, 0, 1}},
	{255, []byte{0, 0, 0, 255}},
	{256, []byte{0, 0, 1, 0}},
	{258, []byte{0, 0, 1, 2}},
	{0x01020304, []byte{1, 2, 3, 4}},
	{0x80000000, []byte{128, 0, 0, 0}},
	{0x7fffffff, []byte{127, 255, 255, 255}},
	{4294967294, []byte{255, 255, 255, 254}},
	{math.MaxUint32, []byte{255, 255, 255, 255}},
}

// longsTold: likewise, of eight bytes.
var longsTold = []struct {
	n    uint64
	form []byte
}{
	{0, []byte{0, 0, 0, 0, 0, 0, 0, 0}},
	{1, []byte{0, 0, 0, 0, 0, 0, 0, 1}},
	{258, []byte{0, 0, 0, 0, 0, 0, 1, 2}},
	{math.MaxUint32, []byte{0, 0, 0, 0, 255, 255, 255, 255}},
	{math.MaxUint32 + 1, []byte{0, 0, 0, 1, 0, 0, 0, 0}},
	{72623859790382856, []byte{1, 2, 3, 4, 5, 6, 7, 8}},
	{1 << 63, []byte{128, 0, 0, 0, 0, 0, 0, 0}},
	{math.MaxUint64 - 1, []byte{255, 255, 255, 255, 255, 255, 255, 254}},
	{math.MaxUint64, []byte{255, 255, 255, 255, 255, 255, 255, 255}},
}

// behind: what may stand behind a number in a message.
var behind = [][]byte{nil, {0}, {7}, {255, 255, 255, 255}, bytes.Repeat([]byte{1, 2, 3}, 100)}

// P1.1: Put, with the chapter's example and the edges.
func TestPut(t *testing.T) {
	for _, c := range wordsTold {
		if b := Put(c.n); !bytes.Equal(b, c.form) {
			t.Errorf("Put(%d) = %v, want %v", c.n, b, c.form)
		}
	}
}

// P1.1: Get looks at the first four bytes alone.
func TestGet(t *testing.T) {
	for _, c := range wordsTold {
		for _, more := range behind {
			if n, e := Get(slices.Concat(c.form, more)); n != c.n || e != api.OK {
				t.Errorf("Get(%v and %d more) = %d, %d; want %d", c.form, len(more), n, e, c.n)
			}
		}
	}
}

// P1.2: PutLong.
func TestPutLong(t *testing.T) {
	for _, c := range longsTold {
		if b := PutLong(c.n); !bytes.Equal(b, c.form) {
			t.Errorf("PutLong(%d) = %v, want %v", c.n, b, c.form)
		}
	}
}

// P1.2: GetLong looks at the first eight bytes alone.
func TestGetLong(t *testing.T) {
	for _, c := range longsTold {
		for _, more := range behind {
			if n, e := GetLong(slices.Concat(c.form, more)); n != c.n || e != api.OK {
				t.Errorf("GetLong(%v and %d more) = %d, %d; want %d", c.form, len(more), n, e, c.n)
			}
		}
	}
}

// P1.1, P1.2, P1.3 and R2: too few bytes are ErrShort, beside zero values, whatever the bytes and their spare room say.
func TestShort(t *testing.T) {
	full := bytes.Repeat([]byte{1}, 16)
	for _, all := range [][]byte{full, make([]byte, 16)} {
		for size := range longSize {
			if n, e := GetLong(all[:size]); n != 0 || e != api.ErrShort {
				t.Errorf("GetLong(%d bytes) = %d, %d; want 0, ErrShort", size, n, e)
			}
		}
		for size := range wordSize {
			if n, e := Get(all[:size]); n != 0 || e != api.ErrShort {
				t.Errorf("Get(%d bytes) = %d, %d; want 0, ErrShort", size, n, e)
			}
			if y, e := GetYes(all[:size]); y || e != api.ErrShort {
				t.Errorf("GetYes(%d bytes) = %v, %d; want false, ErrShort", size, y, e)
			}
		}
	}
}

// R4: no list is as an empty one.
func TestNone(t *testing.T) {
	for _, none := range [][]byte{nil, {}} {
		if n, e := Get(none); n != 0 || e != api.ErrShort {
			t.Errorf("Get(none) = %d, %d", n, e)
		}
		if n, e := GetLong(none); n != 0 || e != api.ErrShort {
			t.Errorf("GetLong(none) = %d, %d", n, e)
		}
		if y, e := GetYes(none); y || e != api.ErrShort {
			t.Errorf("GetYes(none) = %v, %d", y, e)
		}
	}
}

// P1.3: PutYes.
func TestPutYes(t *testing.T) {
	if b := PutYes(true); !bytes.Equal(b, []byte{0, 0, 0, 1}) {
		t.Errorf("PutYes(true) = %v", b)
	}
	if b := PutYes(false); !bytes.Equal(b, []byte{0, 0, 0, 0}) {
		t.Errorf("PutYes(false) = %v", b)
	}
}

// P1.3: GetYes takes 1 and 0, whatever stands behind them.
func TestGetYes(t *testing.T) {
	for _, more := range behind {
		if y, e := GetYes(append([]byte{0, 0, 0, 1}, more...)); !y || e != api.OK {
			t.Errorf("GetYes(1 and %d more) = %v, %d", len(more), y, e)
		}
		if y, e := GetYes(append([]byte{0, 0, 0, 0}, more...)); y || e != api.OK {
			t.Errorf("GetYes(0 and %d more) = %v, %d", len(more), y, e)
		}
	}
}

// P1.3: a number above 1 is ErrForm, in whichever byte it is above.
func TestGetYesForm(t *testing.T) {
	above := [][]byte{{0, 0, 0, 2}, {0, 0, 0, 3}, {0, 0, 0, 255}, {1, 0, 0, 0}, {0, 1, 0, 0}, {0, 0, 1, 0}, {0, 0, 1, 1}, {1, 0, 0, 1}, {128, 0, 0, 1}, {255, 255, 255, 255}}
	for _, b := range above {
		for _, more := range behind {
			if y, e := GetYes(slices.Concat(b, more)); y || e != api.ErrForm {
				t.Errorf("GetYes(%v and %d more) = %v, %d; want false, ErrForm", b, len(more), y, e)
			}
		}
	}
}

// everyWord: numbers that set each bit alone, all bits but one, and many between them.
func everyWord() []uint64 {
	var all []uint64
	for i := range 64 {
		all = append(all, 1<<i, ^(uint64(1) << i), 1<<i-1)
	}
	x := uint64(1)
	for range 2000 {
		x = x*6364136223846793005 + 1442695040888963407
		all = append(all, x)
	}
	return all
}

// P1.4 and P0.1: what is put is got, whatever stands behind it.
func TestPutIsGot(t *testing.T) {
	for _, x := range everyWord() {
		for _, more := range behind {
			w := uint32(x)
			if n, e := Get(append(Put(w), more...)); n != w || e != api.OK {
				t.Fatalf("Get(Put(%d)) = %d, %d", w, n, e)
			}
			if n, e := GetLong(append(PutLong(x), more...)); n != x || e != api.OK {
				t.Fatalf("GetLong(PutLong(%d)) = %d, %d", x, n, e)
			}
		}
	}
	for _, yes := range []bool{true, false} {
		for _, more := range behind {
			if y, e := GetYes(append(PutYes(yes), more...)); y != yes || e != api.OK {
				t.Errorf("GetYes(PutYes(%v)) = %v, %d", yes, y, e)
			}
		}
	}
}

// gotIsPut says what is wrong, if something that is got of bytes was not put so. (P1.4, P0.1)
func gotIsPut(b []byte) string {
	if n, e := Get(b); e == api.OK && !bytes.Equal(Put(n), b[:4]) {
		return fmt.Sprintf("Get(%v) = %d, which is put as %v", b, n, Put(n))
	}
	if n, e := GetLong(b); e == api.OK && !bytes.Equal(PutLong(n), b[:8]) {
		return fmt.Sprintf("GetLong(%v) = %d, which is put as %v", b, n, PutLong(n))
	}
	if y, e := GetYes(b); e == api.OK && !bytes.Equal(PutYes(y), b[:4]) {
		return fmt.Sprintf("GetYes(%v) = %v, which is put as %v", b, y, PutYes(y))
	}
	return ""
}

// P1.4 and P0.1: what is got is put as the bytes that it had.
func TestGotIsPut(t *testing.T) {
	for b := range probe.EveryByte("\x00\x00\x00\x00\x00\x00\x00\x00\x00") {
		if wrong := gotIsPut(b); wrong != "" {
			t.Fatal(wrong)
		}
	}
}

// P1.4, R1: any bytes, of any length.
func FuzzGotIsPut(f *testing.F) {
	for size := range 12 {
		f.Add(make([]byte, size))
		f.Add(bytes.Repeat([]byte{255}, size))
	}
	f.Fuzz(func(t *testing.T, b []byte) {
		if wrong := gotIsPut(b); wrong != "" {
			t.Fatal(wrong)
		}
	})
}

// R4: what is handed in is not changed, its spare room neither.
func TestHandedInStays(t *testing.T) {
	for size := range 17 {
		room := []byte{0, 0, 0, 1, 5, 6, 7, 8, 9, 10, 11, 12, 13, 14, 15, 16}
		was := slices.Clone(room)
		b := room[:min(size, len(room))]
		Get(b)
		GetLong(b)
		GetYes(b)
		if !bytes.Equal(room, was) {
			t.Errorf("of %d bytes: %v, was %v", size, room, was)
		}
	}
}

// R4: an answer is new memory, spare room too: scribbling over one leaves the others as they were.
func TestAnswersShareNothing(t *testing.T) {
	puts := map[string]func() []byte{
		"Put":     func() []byte { return Put(0x01020304) },
		"PutLong": func() []byte { return PutLong(0x0102030405060708) },
		"yes":     func() []byte { return PutYes(true) },
		"no":      func() []byte { return PutYes(false) },
	}
	for name, put := range puts {
		one, two := put(), put()
		want := slices.Clone(two)
		probe.Scribble(one)
		if three := put(); !bytes.Equal(two, want) || !bytes.Equal(three, want) {
			t.Errorf("%s: %v and %v, want %v", name, two, three, want)
		}
	}
}

// R1: telling bytes stops when nobody wants more of them; it would panic else.
func TestToldStops(t *testing.T) {
	var got []byte
	for x := range told(0x0102030405060708, longSize) {
		if got = append(got, x); len(got) == 3 {
			break
		}
	}
	if !bytes.Equal(got, []byte{1, 2, 3}) {
		t.Errorf("%v", got)
	}
}
