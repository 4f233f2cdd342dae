package handles

import (
	"bytes"
	"fmt"
	"hash/crc32"
	"iter"
	"math"
	"slices"
	"testing"

	"wharfinger/api"
	"wharfinger/probe"
)

// known: a handle, and how it is put.
type known struct {
	handle api.Handle
	form   string
}

// forms: handles, and how they are put, written out; the sums are those that a zlib outside of Go tells.
var forms = []known{
	{api.Handle{Node: 1}, "whrf\x00\x00\x00\x01\x00\x00\x00\x00\x21\xb5\x5d\x52"},
	{api.Handle{Node: 1, Gen: 1}, "whrf\x00\x00\x00\x01\x00\x00\x00\x01\x56\xb2\x6d\xc4"},
	{api.Handle{Node: 2, Gen: 0x01020304}, "whrf\x00\x00\x00\x02\x01\x02\x03\x04\xf1\x6d\x03\x53"},
	{api.Handle{Node: 258, Gen: 1 << 31}, "whrf\x00\x00\x01\x02\x80\x00\x00\x00\x40\x10\x42\x1c"},
	{api.Handle{Node: 1, Gen: math.MaxUint32}, "whrf\x00\x00\x00\x01\xff\xff\xff\xff\xff\x0e\x7d\xb1"},
	{api.Handle{Node: 1024}, "whrf\x00\x00\x04\x00\x00\x00\x00\x00\x87\x44\x36\xf4"},
	{api.Handle{Node: 1024, Gen: math.MaxUint32}, "whrf\x00\x00\x04\x00\xff\xff\xff\xff\x59\xff\x16\x17"},
}

// number: one, as bytes, made otherwise than in the program.
func number(n uint32) string {
	return string([]byte{byte(n >> 24), byte(n >> 16), byte(n >> 8), byte(n)})
}

// summed: bytes with their sum behind them, made otherwise than in the program.
func summed(b string) string { return b + number(crc32.ChecksumIEEE([]byte(b))) }

// formOf: the bytes that a handle of these numbers would have, whether there may be one or not.
func formOf(node, gen uint32) string { return summed("whrf" + number(node) + number(gen)) }

func wantPut(t *testing.T, h api.Handle, want string) {
	t.Helper()
	if b, e := Put(h); string(b) != want || e != api.OK {
		t.Errorf("Put(%+v) = %x, %d; want %x", h, b, e, want)
	}
}

// wantRefused asks Put of a handle that may not be: the error, and nothing beside it. (R2)
func wantRefused(t *testing.T, h api.Handle) {
	t.Helper()
	if b, e := Put(h); b != nil || e != api.ErrArg {
		t.Errorf("Put(%+v) = %x, %d; want nothing, ErrArg", h, b, e)
	}
}

func wantGet(t *testing.T, b string, want api.Handle) {
	t.Helper()
	if h, e := Get([]byte(b)); h != want || e != api.OK {
		t.Errorf("Get(%x) = %+v, %d; want %+v", b, h, e, want)
	}
}

// wantForm asks Get of bytes of no handle: the error, and nothing beside it. (R2)
func wantForm(t *testing.T, b []byte) {
	t.Helper()
	if h, e := Get(b); h != (api.Handle{}) || e != api.ErrForm {
		t.Errorf("Get(%.40x, %d bytes) = %+v, %d; want nothing, ErrForm", b, len(b), h, e)
	}
}

// P8.1, R5: Put and Get of what is written out by hand; again and again, so that a sum that went on from call to call would be seen.
func TestForms(t *testing.T) {
	for range 3 {
		for _, f := range forms {
			wantPut(t, f.handle, f.form)
			wantGet(t, f.form, f.handle)
		}
	}
}

// P8.1: the chapter's examples.
func TestExamples(t *testing.T) {
	first, e := Put(api.Handle{Node: 1})
	if want := summed("\x77\x68\x72\x66\x00\x00\x00\x01\x00\x00\x00\x00"); string(first) != want || e != api.OK {
		t.Errorf("Put(Node 1, Gen 0) = %x, %d; want %x", first, e, want)
	}
	wantRefused(t, api.Handle{Node: 0})
	wantRefused(t, api.Handle{Node: 1025})
	wantForm(t, nil)
	for bit := range 128 {
		b := bytes.Clone(first)
		b[bit/8] ^= 1 << (bit % 8)
		wantForm(t, b)
	}
	wantGet(t, string(first), api.Handle{Node: 1, Gen: 0})
}

// The sum of the text that the chapter names; of nothing; and of others, as they are summed elsewhere.
func TestSum(t *testing.T) {
	if n := summing()([]byte("123456789")); n != 0xcbf43926 {
		t.Errorf("of 123456789: %08x", n)
	}
	if n := summing()(nil); n != 0 {
		t.Errorf("of nothing: %08x", n)
	}
	for _, size := range []int{1, 2, 3, 4, 11, 12, 13, 255, 256, 1000} {
		for _, b := range [][]byte{make([]byte, size), probe.Filled(size), bytes.Repeat([]byte{255}, size)} {
			if n, want := summing()(b), crc32.ChecksumIEEE(b); n != want {
				t.Errorf("of %d bytes: %08x, want %08x", size, n, want)
			}
		}
	}
}

// A sum goes on from where it stood, however its bytes are cut, and hangs on no other one. (R5)
func TestSumGoesOn(t *testing.T) {
	for cut := range 10 {
		sum, other := summing(), summing()
		sum([]byte("123456789")[:cut])
		other([]byte("other"))
		if n := sum([]byte("123456789")[cut:]); n != 0xcbf43926 {
			t.Errorf("cut at %d: %08x", cut, n)
		}
	}
}

// gens: numbers at their edges, and with each bit alone.
func gens() []uint32 {
	list := []uint32{0, 3, 255, 257, 65535, 0x01020304, 1<<31 - 1, 1<<31 + 1, math.MaxUint32 - 1, math.MaxUint32}
	for bit := range 32 {
		list = append(list, 1<<bit)
	}
	return list
}

// P8.1, P8.2, P0.1: each Node that may be, with Gens at their edges: what is put is got.
func TestPutIsGot(t *testing.T) {
	for node := 1; node <= 1024; node++ {
		for _, gen := range gens() {
			h := api.Handle{Node: node, Gen: gen}
			b, e := Put(h)
			if want := formOf(uint32(node), gen); string(b) != want || e != api.OK {
				t.Fatalf("Put(%+v) = %x, %d; want %x", h, b, e, want)
			}
			if again, e := Get(b); again != h || e != api.OK {
				t.Fatalf("Get(Put(%+v)) = %+v, %d", h, again, e)
			}
		}
	}
}

// P8.1: no Node but 1 to MaxNodes; nor one whose low bits alone would be such a one.
func TestPutArg(t *testing.T) {
	nodes := []int{0, -1, -2, -255, -1023, -1024, -1025, 1025, 1026, 2047, 2048, 65535, 65536, 65537, math.MaxInt32, math.MinInt32, math.MinInt32 + 1, math.MaxUint32, math.MaxInt, math.MinInt, math.MinInt + 1}
	for _, low := range []int{0, 1, 1024, 1025} {
		for place := 32; place < 63; place++ {
			nodes = append(nodes, 1<<place+low, -(1<<place)+low)
		}
	}
	for _, node := range nodes {
		for _, gen := range gens() {
			wantRefused(t, api.Handle{Node: node, Gen: gen})
		}
	}
}

// P8.1, R4: bytes cut off at every place, from the end and from the front; their spare room does not count.
func TestGetShort(t *testing.T) {
	for _, none := range [][]byte{nil, {}, make([]byte, 0, 16)} {
		wantForm(t, none)
	}
	for _, f := range forms {
		whole := []byte(f.form)
		for n := range len(whole) {
			wantForm(t, whole[:n])
			wantForm(t, slices.Clip(whole[:n]))
			wantForm(t, whole[n+1:])
		}
	}
	for n := range 16 {
		wantForm(t, make([]byte, n))
		wantForm(t, probe.Filled(n))
		if n >= 4 {
			wantForm(t, []byte(summed("whrf\x00\x00\x00\x01\x00\x00\x00\x00"[:n-4])))
		}
	}
}

// P8.1: bytes behind a handle's, or ahead of them; also such as a sum stands behind.
func TestGetLong(t *testing.T) {
	for _, f := range forms {
		for x := range 256 {
			wantForm(t, append([]byte(f.form), byte(x)))
			wantForm(t, append([]byte{byte(x)}, f.form...))
		}
		for _, more := range append(probe.Behind()[1:], f.form) {
			wantForm(t, []byte(f.form+more))
			wantForm(t, []byte(more+f.form))
			wantForm(t, []byte(summed(f.form[:12]+more)))
		}
		wantForm(t, append([]byte(f.form), make([]byte, 1<<20)...))
	}
}

// P8.1: bytes whose sum is right, of a Node that may not be.
func TestGetNode(t *testing.T) {
	nodes := []uint32{0, 1025, 1026, 2048, 65536, 65537, 1<<31 - 1, 1 << 31, 1<<31 + 1, 1<<31 + 1024, math.MaxUint32 - 1, math.MaxUint32}
	for place := 11; place < 32; place++ {
		nodes = append(nodes, 1<<place, 1<<place+1)
	}
	for _, node := range nodes {
		for _, gen := range gens() {
			wantForm(t, []byte(formOf(node, gen)))
		}
	}
}

// P8.1: bytes whose sum is right, of another text.
func TestGetText(t *testing.T) {
	texts := []string{"\x00\x00\x00\x00", "\xff\xff\xff\xff", "frhw", "WHRF", "wharf", "hrfw", "whr", "whr\x00", "whre", "123456789", ""}
	for b := range probe.EveryByte("whrf") {
		if string(b) != "whrf" {
			texts = append(texts, string(b))
		}
	}
	for _, text := range texts {
		for _, f := range forms {
			wantForm(t, []byte(summed(text+f.form[4:12])))
		}
	}
}

// P8.1: a sum that is told or made otherwise than the chapter says.
func TestGetSum(t *testing.T) {
	for _, f := range forms {
		ahead, sum := f.form[:12], crc32.ChecksumIEEE([]byte(f.form[:12]))
		back := []byte(number(sum))
		slices.Reverse(back)
		other := crc32.Checksum([]byte(ahead), crc32.MakeTable(crc32.Castagnoli))
		for _, wrong := range []string{number(^sum), number(sum + 1), number(sum - 1), number(other), number(0), number(math.MaxUint32), number(crc32.ChecksumIEEE([]byte(ahead[4:]))), number(crc32.ChecksumIEEE([]byte("123456789"))), string(back)} {
			wantForm(t, []byte(ahead+wrong))
		}
	}
}

// P8.2: each of the sixteen bytes, changed alone, in every way.
func TestOneByteChanged(t *testing.T) {
	for _, f := range forms {
		for b := range probe.EveryByte(f.form) {
			if string(b) != f.form {
				wantForm(t, b)
			}
		}
	}
}

// P8.2: two bytes that stand side by side, among the first twelve or among the last four, changed in every way.
func TestTwoBytesChanged(t *testing.T) {
	form := forms[2].form
	for _, place := range sides(2) {
		for change := 1; change < 1<<16; change++ {
			b := []byte(form)
			b[place] ^= byte(change >> 8)
			b[place+1] ^= byte(change)
			if h, e := Get(b); h != (api.Handle{}) || e != api.ErrForm {
				t.Fatalf("Get(%x) = %+v, %d; want nothing, ErrForm", b, h, e)
			}
		}
	}
}

// sides: the places at which so many bytes stand side by side among the first twelve, or among the last four.
func sides(many int) []int {
	var list []int
	for place := 0; place+many <= 12; place++ {
		list = append(list, place)
	}
	for place := 12; place+many <= 16; place++ {
		list = append(list, place)
	}
	return list
}

// changes tells how four bytes are changed: each bit alone, each two of them, all but each, and others.
func changes() iter.Seq[uint32] {
	return func(yield func(uint32) bool) {
		x := uint32(1)
		for i := range 2000 {
			x = x*1664525 + 1013904223
			one, two := uint32(1)<<(i%32), uint32(1)<<(i/32%32)
			if !yield(x) || !yield(one|two) || !yield(^(one | two)) || !yield(turned>>(i%32)) || !yield(turned<<(i%32)) {
				return
			}
		}
	}
}

// changed: bytes of which so many, from a place on, are changed; the same ones, if the change would be in others.
func changed(form string, place, many int, change uint32) []byte {
	b := []byte(form)
	for i := range many {
		b[place+i] ^= byte(change >> (8 * i))
	}
	return b
}

// P8.2: up to four bytes that stand side by side, among the first twelve or among the last four, changed in many ways.
func TestBytesChanged(t *testing.T) {
	for _, f := range forms {
		for many := 1; many <= 4; many++ {
			for _, place := range sides(many) {
				for change := range changes() {
					if b := changed(f.form, place, many, change); string(b) != f.form {
						wantForm(t, b)
					}
				}
			}
		}
	}
}

// shift: by how much a sum of twelve bytes changes with these four of them. It hangs on nothing else, as long as the sum of two changes is the change of the sum.
func shift(b []byte, place int, change uint32) uint32 {
	return summing()(b[:12]) ^ summing()(changed(string(b[:12]), place, 4, change))
}

// P8.2: no change of four bytes that stand side by side leaves the sum: the shifts by each bit alone are none made of the others, and all others are made of them.
func TestEveryChangeShifts(t *testing.T) {
	whole := []byte(forms[2].form)
	for place := range 9 {
		var base []uint32
		for bit := range 32 {
			left := shift(whole, place, 1<<bit)
			for _, x := range base {
				left = min(left, left^x)
			}
			if left == 0 {
				t.Fatalf("place %d: the shift by bit %d is made of those by others", place, bit)
			}
			base = append(base, left)
		}
		for change := range changes() {
			var want uint32
			for bit := range 32 {
				if change>>bit&1 == 1 {
					want ^= shift(whole, place, 1<<bit)
				}
			}
			if got := shift(whole, place, change); got != want {
				t.Fatalf("place %d, change %08x: shift %08x, want %08x", place, change, got, want)
			}
		}
	}
}

// model says what P8.1 has for bytes: the chapter's words, walked by hand.
func model(b []byte) (api.Handle, api.Errno) {
	if len(b) != 16 || string(b[:4]) != "whrf" || string(b) != summed(string(b[:12])) {
		return api.Handle{}, api.ErrForm
	}
	node := uint32(b[4])<<24 | uint32(b[5])<<16 | uint32(b[6])<<8 | uint32(b[7])
	if node == 0 || node > 1024 {
		return api.Handle{}, api.ErrForm
	}
	return api.Handle{Node: int(node), Gen: uint32(b[8])<<24 | uint32(b[9])<<16 | uint32(b[10])<<8 | uint32(b[11])}, api.OK
}

// follows says what is wrong, if bytes are not got as they may be, or not put so again. (P8.1, P8.2, P0.1, R2)
func follows(b []byte) string {
	want, wrong := model(b)
	h, e := Get(b)
	if h != want || e != wrong {
		return fmt.Sprintf("Get(%x) = %+v, %d; want %+v, %d", b, h, e, want, wrong)
	}
	if e != api.OK {
		return ""
	}
	if again, e := Put(h); !bytes.Equal(again, b) || e != api.OK {
		return fmt.Sprintf("Get(%x) = %+v, which is put as %x, %d", b, h, again, e)
	}
	return ""
}

// P8.1, P8.2, P0.1: what is got is put as the bytes that it had: each byte of every place, with the sum that it had and with its own.
func TestGotIsPut(t *testing.T) {
	for _, f := range forms {
		for b := range probe.EveryByte(f.form) {
			for _, some := range [][]byte{b, []byte(summed(string(b[:12])))} {
				if wrong := follows(some); wrong != "" {
					t.Fatal(wrong)
				}
			}
		}
	}
}

// P8.1, P8.2, R1, R2: any bytes, with their sum and without it, and any handle.
func FuzzWhatFollows(f *testing.F) {
	for _, k := range forms {
		f.Add([]byte(k.form), k.handle.Node, k.handle.Gen)
		f.Add([]byte(k.form[:12]), -k.handle.Node, k.handle.Gen)
		f.Add([]byte(k.form[4:12]), k.handle.Node+1024, k.handle.Gen)
	}
	f.Fuzz(func(t *testing.T, b []byte, node int, gen uint32) {
		for _, some := range []string{string(b), summed(string(b)), summed("whrf" + string(b))} {
			if wrong := follows([]byte(some)); wrong != "" {
				t.Fatal(wrong)
			}
		}
		h := api.Handle{Node: node, Gen: gen}
		if node < 1 || node > 1024 {
			wantRefused(t, h)
			return
		}
		wantPut(t, h, formOf(uint32(node), gen))
	})
}

// R4: what is handed in is not changed, its spare room neither, whether it is a handle's bytes or not.
func TestHandedInStays(t *testing.T) {
	for _, f := range forms {
		for n := range len(f.form) + 7 {
			in := []byte(f.form + "behind")
			Get(in[:n])
			if string(in) != f.form+"behind" {
				t.Errorf("Get of the first %d of %x left %x", n, f.form, in)
			}
		}
		for b := range probe.EveryByte(f.form) {
			was := string(b)
			Get(b)
			if string(b) != was {
				t.Errorf("Get(%x) left %x", was, b)
			}
		}
	}
}

// R4: what Put answers is new memory, spare room too: it changes with no other answer, and nothing changes with it.
func TestPutSharesNothing(t *testing.T) {
	for _, f := range forms {
		first, _ := Put(f.handle)
		second, _ := Put(f.handle)
		other, _ := Put(api.Handle{Node: 7, Gen: 8})
		probe.Scribble(first)
		if string(second) != f.form || string(other) != formOf(7, 8) {
			t.Errorf("%x, %x: changed with an answer", second, other)
		}
		wantPut(t, f.handle, f.form)
		wantGet(t, f.form, f.handle)
		probe.Scribble(second)
		if string(other) != formOf(7, 8) {
			t.Errorf("%x: changed with an answer", other)
		}
	}
}

// R4, R5: nothing is kept of what was handed in: bytes that were written over behind a call, or got ahead of one, change no later answer.
func TestGetKeepsNothing(t *testing.T) {
	for _, f := range forms {
		in := []byte(f.form)
		h, _ := Get(in)
		probe.Scribble(in)
		if h != f.handle {
			t.Errorf("%+v: changed with the bytes", h)
		}
		wantForm(t, in)
		wantGet(t, f.form, f.handle)
		wantPut(t, f.handle, f.form)
	}
}
