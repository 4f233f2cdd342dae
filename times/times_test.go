package times

import (
	"bytes"
	"fmt"
	"math"
	"math/big"
	"slices"
	"testing"

	"wharfinger/api"
	"wharfinger/probe"
)

// at: a point of time.
func at(sec, nano uint32) api.Time { return api.Time{Sec: sec, Nano: nano} }

// last is the last second that a point of time may be in.
const last = math.MaxUint32

// known: a point of time that may be, and how it is put.
type known struct {
	time api.Time
	form string
}

// forms: points of time that may be, and how they are put, written out.
var forms = []known{
	{at(0, 0), "\x00\x00\x00\x00\x00\x00\x00\x00"},
	{at(1, 2), "\x00\x00\x00\x01\x00\x00\x00\x02"},
	{at(0, 1), "\x00\x00\x00\x00\x00\x00\x00\x01"},
	{at(1, 0), "\x00\x00\x00\x01\x00\x00\x00\x00"},
	{at(0x01020304, 0x05060708), "\x01\x02\x03\x04\x05\x06\x07\x08"},
	{at(1<<31, 256), "\x80\x00\x00\x00\x00\x00\x01\x00"},
	{at(0, 999999999), "\x00\x00\x00\x00\x3b\x9a\xc9\xff"},
	{at(5, 999999998), "\x00\x00\x00\x05\x3b\x9a\xc9\xfe"},
	{at(last, 0), "\xff\xff\xff\xff\x00\x00\x00\x00"},
	{at(last, 999999999), "\xff\xff\xff\xff\x3b\x9a\xc9\xff"},
}

// wrongForms: points of time that may not be, and how they are put.
var wrongForms = []known{
	{at(0, 1000000000), "\x00\x00\x00\x00\x3b\x9a\xca\x00"},
	{at(1, 1000000000), "\x00\x00\x00\x01\x3b\x9a\xca\x00"},
	{at(2, 1000000001), "\x00\x00\x00\x02\x3b\x9a\xca\x01"},
	{at(3, 1000000256), "\x00\x00\x00\x03\x3b\x9a\xcb\x00"},
	{at(4, 1<<30), "\x00\x00\x00\x04\x40\x00\x00\x00"},
	{at(5, 1<<31-1), "\x00\x00\x00\x05\x7f\xff\xff\xff"},
	{at(6, 1<<31), "\x00\x00\x00\x06\x80\x00\x00\x00"},
	{at(7, 4000000000), "\x00\x00\x00\x07\xee\x6b\x28\x00"},
	{at(8, math.MaxUint32), "\x00\x00\x00\x08\xff\xff\xff\xff"},
	{at(last, 1000000000), "\xff\xff\xff\xff\x3b\x9a\xca\x00"},
	{at(last, math.MaxUint32), "\xff\xff\xff\xff\xff\xff\xff\xff"},
}

// seconds and nanos: numbers at their edges; of the nanos, those of points of time that may not be as well.
func seconds() []uint32 {
	return []uint32{0, 1, 2, 255, 256, 999999999, 1000000000, 1<<31 - 1, 1 << 31, last - 2, last - 1, last}
}

func nanos() []uint32 {
	return []uint32{0, 1, 2, 499999999, 500000000, 709551614, 709551615, 999999998, 999999999, 1000000000, 1000000001, 1999999999, 1<<31 - 1, 1 << 31, math.MaxUint32 - 1, math.MaxUint32}
}

// points: each second with each nano.
func points() []api.Time {
	var list []api.Time
	for _, sec := range seconds() {
		for _, nano := range nanos() {
			list = append(list, at(sec, nano))
		}
	}
	return list
}

// mayBe: those of the points that may be.
func mayBe() []api.Time {
	return slices.DeleteFunc(points(), func(t api.Time) bool { return t.Nano > 999999999 })
}

func wantCheck(t *testing.T, p api.Time, want bool) {
	t.Helper()
	if Check(p) != want {
		t.Errorf("Check(%v) is not %v", p, want)
	}
}

// P9.1: Nano 0, 999999999, 1000000000, the greatest number, and others; whatever the Sec.
func TestCheck(t *testing.T) {
	for _, sec := range seconds() {
		for _, nano := range []uint32{0, 1, 500000000, 536870911, 536870912, 999999998, 999999999} {
			wantCheck(t, at(sec, nano), true)
		}
		for _, nano := range []uint32{1000000000, 1000000001, 1<<30 - 1, 1 << 30, 1<<31 - 1, 1 << 31, 1<<31 + 1, math.MaxUint32 - 1, math.MaxUint32} {
			wantCheck(t, at(sec, nano), false)
		}
	}
}

// P9.1 to P9.4: the chapter's examples.
func TestExamples(t *testing.T) {
	wantCheck(t, at(5, 999999999), true)
	wantCheck(t, at(5, 1000000000), false)
	wantLess(t, at(1, 9), at(2, 0), true)
	wantLess(t, at(1, 0), at(1, 1), true)
	wantLess(t, at(1, 1), at(1, 1), false)
	wantAdd(t, at(1, 999999999), 1, at(2, 0))
	wantAdd(t, at(0, 0), 3500000000, at(3, 500000000))
	wantNoAdd(t, at(last, 999999999), 1, api.ErrLimit)
	wantNoAdd(t, at(0, 1000000000), 0, api.ErrArg)
	wantPut(t, at(1, 2), "\x00\x00\x00\x01\x00\x00\x00\x02")
	wantGet(t, "\x00\x00\x00\x01\x00\x00\x00\x02", at(1, 2))
	wantGet(t, "\x00\x00\x00\x01\x00\x00\x00\x02and more", at(1, 2))
	wantNoGet(t, []byte("\x00\x00\x00\x01\x00\x00\x00"), api.ErrShort)
	wantNoGet(t, []byte("\x00\x00\x00\x01\x3b\x9a\xca\x00"), api.ErrForm)
}

func wantLess(t *testing.T, a, b api.Time, want bool) {
	t.Helper()
	if Less(a, b) != want {
		t.Errorf("Less(%v, %v) is not %v", a, b, want)
	}
}

// P9.2: points of time that share Sec, Nano, both or neither, and those that may not be, written out.
func TestLess(t *testing.T) {
	rising := []api.Time{at(0, 0), at(0, 1), at(0, 999999999), at(0, 1000000000), at(0, math.MaxUint32), at(1, 0), at(1, 1), at(1, 2), at(1, 1000000000), at(2, 0), at(2, 2), at(255, 3), at(256, 1), at(1<<31-1, math.MaxUint32), at(1<<31, 0), at(1<<31, 1<<31-1), at(1<<31, 1<<31), at(last, 0), at(last, 1), at(last, 999999999), at(last, math.MaxUint32)}
	for i, a := range rising {
		for j, b := range rising {
			wantLess(t, a, b, i < j)
		}
	}
}

// P9.2: each two of many points of time: of two that are not the same, one is less than the other.
func TestLessOfEachTwo(t *testing.T) {
	for _, a := range points() {
		for _, b := range points() {
			// Told as one number, the Sec above the Nano, whether that may be or not.
			one, other := uint64(a.Sec)<<32+uint64(a.Nano), uint64(b.Sec)<<32+uint64(b.Nano)
			wantLess(t, a, b, one < other)
			if both := Less(a, b) || Less(b, a); both == (a == b) {
				t.Errorf("%v, %v: one less than the other: %v", a, b, both)
			}
		}
	}
}

func wantAdd(t *testing.T, p api.Time, nanos uint64, want api.Time) {
	t.Helper()
	if later, e := Add(p, nanos); later != want || e != api.OK {
		t.Errorf("Add(%v, %d) = %v, %d; want %v", p, nanos, later, e, want)
	}
}

// wantNoAdd asks Add of what it does not do: the error, and nothing beside it. (R2)
func wantNoAdd(t *testing.T, p api.Time, nanos uint64, want api.Errno) {
	t.Helper()
	if later, e := Add(p, nanos); later != at(0, 0) || e != want {
		t.Errorf("Add(%v, %d) = %v, %d; want nothing, %d", p, nanos, later, e, want)
	}
}

// P9.3: 0, 1, one less than a second, a second and one more, the greatest number, written out.
func TestAdd(t *testing.T) {
	for _, c := range []struct {
		from  api.Time
		nanos uint64
		want  api.Time
	}{
		{at(0, 0), 0, at(0, 0)},
		{at(0, 0), 1, at(0, 1)},
		{at(0, 0), 999999999, at(0, 999999999)},
		{at(0, 0), 1000000000, at(1, 0)},
		{at(0, 0), 1000000001, at(1, 1)},
		{at(0, 999999999), 0, at(0, 999999999)},
		{at(0, 999999999), 1, at(1, 0)},
		{at(0, 999999999), 999999999, at(1, 999999998)},
		{at(0, 999999999), 1000000000, at(1, 999999999)},
		{at(0, 999999999), 1000000001, at(2, 0)},
		{at(0, 1), 999999998, at(0, 999999999)},
		{at(7, 999999998), 1, at(7, 999999999)},
		{at(last, 0), 0, at(last, 0)},
		{at(last, 0), 1, at(last, 1)},
		{at(last, 0), 999999999, at(last, 999999999)},
		{at(last, 999999999), 0, at(last, 999999999)},
		{at(last-1, 0), 1000000000, at(last, 0)},
		{at(last-1, 0), 1999999999, at(last, 999999999)},
		{at(last-1, 999999999), 1, at(last, 0)},
		{at(last-1, 999999999), 1000000000, at(last, 999999999)},
		{at(0, 0), 4294967295000000000, at(last, 0)},
		{at(0, 0), 4294967295999999999, at(last, 999999999)},
		{at(0, 999999999), 4294967295000000000, at(last, 999999999)},
		{at(0, 999999999), 4294967294000000001, at(last, 0)},
		{at(1<<31, 0), 2147483647999999999, at(last, 999999999)},
		{at(5, 0), math.MaxUint32, at(9, 294967295)},
		{at(5, 0), math.MaxUint32 + 1, at(9, 294967296)},
	} {
		wantAdd(t, c.from, c.nanos, c.want)
	}
}

// P9.3: what is one nanosecond too far, and more.
func TestAddLimit(t *testing.T) {
	for _, c := range []struct {
		from  api.Time
		nanos uint64
	}{
		{at(last, 999999999), 1},
		{at(last, 999999999), 999999999},
		{at(last, 999999999), 1000000000},
		{at(last, 999999999), 1000000001},
		{at(last, 0), 1000000000},
		{at(last, 0), 1000000001},
		{at(last, 1), 999999999},
		{at(last-1, 0), 2000000000},
		{at(last-1, 999999999), 1000000001},
		{at(0, 0), 4294967296000000000},
		{at(0, 0), 4294967296000000001},
		{at(0, 1), 4294967295999999999},
		{at(0, 999999999), 4294967295000000001},
		{at(1<<31, 0), 2147483648000000000},
		// Twice, and four times, as many seconds as a Sec tells: wrapped round they would be none.
		{at(0, 0), 8589934592000000000},
		{at(0, 5), 17179869184000000000},
		{at(0, 0), math.MaxUint64},
		{at(0, 999999999), math.MaxUint64},
		{at(last, 0), math.MaxUint64},
		{at(last, 999999999), math.MaxUint64},
		// With these nanoseconds the sum is above what a number of eight bytes holds.
		{at(0, 999999999), math.MaxUint64 - 999999998},
		{at(1, 0), math.MaxUint64 - 999999999},
		{at(last, 999999999), math.MaxUint64 - 4294967295999999998},
	} {
		wantNoAdd(t, c.from, c.nanos, api.ErrLimit)
	}
}

// steps: how many nanoseconds are added: numbers at their edges, and those that bring a point of time to the last second, or beyond it.
func steps(p api.Time) []uint64 {
	list := []uint64{0, 1, 2, 999999998, 999999999, 1000000000, 1000000001, 1999999999, 2000000000, math.MaxUint32, math.MaxUint32 + 1, math.MaxInt64, math.MaxInt64 + 1, math.MaxUint64 - 999999999, math.MaxUint64 - 1, math.MaxUint64}
	left := uint64(last-p.Sec) * 1000000000
	for _, more := range []uint64{0, 1, 999999998, 999999999, 1000000000, 1000000001, 2000000000} {
		list = append(list, left+more)
		if more > uint64(p.Nano) {
			list = append(list, left+more-uint64(p.Nano))
		}
	}
	return list
}

// P9.3: ErrArg goes ahead of ErrLimit.
func TestAddArg(t *testing.T) {
	for _, p := range points() {
		if p.Nano < 1000000000 {
			continue
		}
		for _, step := range steps(p) {
			wantNoAdd(t, p, step, api.ErrArg)
		}
	}
}

// added says what P9.3 has: reckoned in whole nanoseconds, of any size.
func added(p api.Time, nanos uint64) (api.Time, api.Errno) {
	if p.Nano > 999999999 {
		return at(0, 0), api.ErrArg
	}
	all := new(big.Int).Mul(big.NewInt(int64(p.Sec)), big.NewInt(1000000000))
	all.Add(all, big.NewInt(int64(p.Nano)))
	all.Add(all, new(big.Int).SetUint64(nanos))
	sec, nano := new(big.Int).DivMod(all, big.NewInt(1000000000), new(big.Int))
	if sec.Cmp(big.NewInt(last)) > 0 {
		return at(0, 0), api.ErrLimit
	}
	return at(uint32(sec.Uint64()), uint32(nano.Uint64())), api.OK
}

// P9.3: many points of time, with many steps each.
func TestAddOfMany(t *testing.T) {
	for _, p := range points() {
		for _, step := range steps(p) {
			want, wrong := added(p, step)
			if later, e := Add(p, step); later != want || e != wrong {
				t.Errorf("Add(%v, %d) = %v, %d; want %v, %d", p, step, later, e, want, wrong)
			}
		}
	}
}

// inTwo says what is wrong, if two steps are not as one. It asks of two whose sum is a number that may be added. (P9.5)
func inTwo(p api.Time, first, second uint64) string {
	want, wrong := Add(p, first+second)
	later, e := Add(p, first)
	if e == api.OK {
		later, e = Add(later, second)
	}
	if later != want || e != wrong {
		return fmt.Sprintf("%v and %d and %d = %v, %d; in one step %v, %d", p, first, second, later, e, want, wrong)
	}
	return ""
}

// P9.5: what is added in two steps is as if in one, whether it is too far or not.
func TestTwoSteps(t *testing.T) {
	for _, p := range points() {
		for _, first := range steps(p) {
			for _, second := range steps(p) {
				if first > math.MaxUint64-second {
					continue
				}
				if wrong := inTwo(p, first, second); wrong != "" {
					t.Error(wrong)
				}
			}
		}
	}
}

// staysLater says what is wrong, if of two points of time the later one is not later any more, so many nanoseconds later. (P9.5)
func staysLater(a, b api.Time, nanos uint64) string {
	one, e := Add(a, nanos)
	other, wrong := Add(b, nanos)
	if e == api.OK && wrong == api.OK && Less(one, other) != Less(a, b) {
		return fmt.Sprintf("%v, %v and %d: %v, %v", a, b, nanos, one, other)
	}
	if e == api.ErrLimit && wrong == api.OK && Less(a, b) {
		return fmt.Sprintf("%v and %d is too far, and %v is not", a, nanos, b)
	}
	return ""
}

// P9.5: what is later stays later; what is too far for one is too far for a later one.
func TestLaterStaysLater(t *testing.T) {
	for _, a := range mayBe() {
		for _, b := range mayBe() {
			for _, step := range steps(b) {
				if wrong := staysLater(a, b, step); wrong != "" {
					t.Error(wrong)
				}
			}
		}
	}
}

// P9.3, P9.5: by one nanosecond or more, what it answers is later; by none, the same.
func TestAddIsLater(t *testing.T) {
	for _, p := range mayBe() {
		for _, step := range steps(p) {
			if later, e := Add(p, step); e == api.OK && (!Check(later) || Less(p, later) != (step > 0)) {
				t.Errorf("Add(%v, %d) = %v", p, step, later)
			}
		}
	}
}

func wantPut(t *testing.T, p api.Time, want string) {
	t.Helper()
	if b := Put(p); string(b) != want {
		t.Errorf("Put(%v) = %x; want %x", p, b, want)
	}
}

func wantGet(t *testing.T, b string, want api.Time) {
	t.Helper()
	if p, e := Get([]byte(b)); p != want || e != api.OK {
		t.Errorf("Get(%x) = %v, %d; want %v", b, p, e, want)
	}
}

// wantNoGet asks Get of bytes of none: the error, and nothing beside it. (R2)
func wantNoGet(t *testing.T, b []byte, want api.Errno) {
	t.Helper()
	if p, e := Get(b); p != at(0, 0) || e != want {
		t.Errorf("Get(%x) = %v, %d; want nothing, %d", b, p, e, want)
	}
}

// P9.4, P9.5, R5: Put and Get of what is written out by hand, whatever stands behind it; again, behind all others.
func TestForms(t *testing.T) {
	for range 2 {
		for _, f := range forms {
			wantPut(t, f.time, f.form)
			for _, more := range probe.Behind() {
				wantGet(t, f.form+more, f.time)
			}
		}
	}
}

// P9.4: what may not be is put as well, and not got.
func TestWrongForms(t *testing.T) {
	for _, f := range wrongForms {
		wantPut(t, f.time, f.form)
		for _, more := range probe.Behind() {
			wantNoGet(t, []byte(f.form+more), api.ErrForm)
		}
	}
}

// P9.4, R4: nothing, and fewer than eight bytes at every place, whether what they begin may be or not; their spare room does not count.
func TestGetShort(t *testing.T) {
	for _, none := range [][]byte{nil, {}, make([]byte, 0, 8)} {
		wantNoGet(t, none, api.ErrShort)
	}
	for _, f := range slices.Concat(forms, wrongForms) {
		whole := []byte(f.form)
		for n := range len(whole) {
			wantNoGet(t, whole[:n], api.ErrShort)
			wantNoGet(t, slices.Clip(whole[:n]), api.ErrShort)
			wantNoGet(t, whole[n+1:], api.ErrShort)
		}
	}
	for n := range 8 {
		wantNoGet(t, make([]byte, n), api.ErrShort)
		wantNoGet(t, probe.Filled(n), api.ErrShort)
	}
}

// number: one, as bytes, made otherwise than in the program.
func number(n uint32) string {
	return string([]byte{byte(n >> 24), byte(n >> 16), byte(n >> 8), byte(n)})
}

// P9.4, P9.5: many points of time: what is put is got, if it may be.
func TestPutIsGot(t *testing.T) {
	for _, p := range points() {
		form := number(p.Sec) + number(p.Nano)
		wantPut(t, p, form)
		if p.Nano < 1000000000 {
			wantGet(t, form, p)
		} else {
			wantNoGet(t, []byte(form), api.ErrForm)
		}
	}
}

// model says what P9.4 has for bytes: the chapter's words, walked by hand.
func model(b []byte) (api.Time, api.Errno) {
	if len(b) < 8 {
		return at(0, 0), api.ErrShort
	}
	sec := uint32(b[0])<<24 | uint32(b[1])<<16 | uint32(b[2])<<8 | uint32(b[3])
	nano := uint32(b[4])<<24 | uint32(b[5])<<16 | uint32(b[6])<<8 | uint32(b[7])
	if nano > 999999999 {
		return at(0, 0), api.ErrForm
	}
	return at(sec, nano), api.OK
}

// follows says what is wrong, if bytes are not got as they may be, or not put so again. (P9.4, P9.5, P0.1, R2)
func follows(b []byte) string {
	want, wrong := model(b)
	p, e := Get(b)
	if p != want || e != wrong {
		return fmt.Sprintf("Get(%x) = %v, %d; want %v, %d", b, p, e, want, wrong)
	}
	if e != api.OK {
		return ""
	}
	if again := Put(p); !Check(p) || !bytes.Equal(again, b[:8]) {
		return fmt.Sprintf("Get(%x) = %v, which is put as %x", b, p, again)
	}
	return ""
}

// P9.4, P9.5, P0.1: what is got is put as the bytes that it had: each byte of every place.
func TestGotIsPut(t *testing.T) {
	for _, f := range slices.Concat(forms, wrongForms) {
		for b := range probe.EveryByte(f.form + "7") {
			if wrong := follows(b); wrong != "" {
				t.Fatal(wrong)
			}
		}
	}
}

// P9.1 to P9.5, R1, R2: any points of time, any bytes, any steps.
func FuzzWhatFollows(f *testing.F) {
	for _, k := range slices.Concat(forms, wrongForms) {
		f.Add([]byte(k.form), k.time.Sec, k.time.Nano, uint64(1), uint64(999999999))
		f.Add([]byte(k.form[:7]), k.time.Sec, uint32(999999999), uint64(math.MaxUint64), uint64(0))
		f.Add([]byte(k.form+k.form), uint32(0), k.time.Nano, uint64(4294967295999999999), uint64(1))
	}
	f.Fuzz(func(t *testing.T, b []byte, sec, nano uint32, first, second uint64) {
		p := at(sec, nano)
		wantPut(t, p, number(sec)+number(nano))
		wantCheck(t, p, nano <= 999999999)
		want, wrong := added(p, first)
		if later, e := Add(p, first); later != want || e != wrong {
			t.Fatalf("Add(%v, %d) = %v, %d; want %v, %d", p, first, later, e, want, wrong)
		}
		for _, fault := range []string{follows(b), follows(Put(p)), inTwo(p, first/2, second/2), staysLater(p, at(nano, sec), second), staysLater(p, at(sec, nano/2), first)} {
			if fault != "" {
				t.Fatal(fault)
			}
		}
	})
}

// R4: what is handed in is not changed, its spare room neither, whether a point of time is told by it or not.
func TestHandedInStays(t *testing.T) {
	for _, f := range slices.Concat(forms, wrongForms) {
		whole := f.form + "behind"
		for n := range len(whole) + 1 {
			in := []byte(whole)
			Get(in[:n])
			if string(in) != whole {
				t.Errorf("Get of the first %d of %x left %x", n, whole, in)
			}
		}
	}
}

// R4: what Put answers is new memory, spare room too: it changes with no other answer, and nothing changes with it.
func TestPutSharesNothing(t *testing.T) {
	for _, f := range slices.Concat(forms, wrongForms) {
		first, second, other := Put(f.time), Put(f.time), Put(at(7, 8))
		probe.Scribble(first)
		if string(second) != f.form || string(other) != "\x00\x00\x00\x07\x00\x00\x00\x08" {
			t.Errorf("%x, %x: changed with an answer", second, other)
		}
		wantPut(t, f.time, f.form)
		probe.Scribble(second)
		if string(other) != "\x00\x00\x00\x07\x00\x00\x00\x08" {
			t.Errorf("%x: changed with an answer", other)
		}
	}
}

// R4, R5: nothing is kept of what was handed in: bytes that were written over behind a call, or got ahead of one, change no later answer.
func TestGetKeepsNothing(t *testing.T) {
	for _, f := range forms {
		in := []byte(f.form)
		p, _ := Get(in)
		probe.Scribble(in)
		if p != f.time {
			t.Errorf("%v: changed with the bytes", p)
		}
		Get(in)
		wantGet(t, f.form, f.time)
		wantPut(t, f.time, f.form)
	}
}
