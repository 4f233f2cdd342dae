package replies

import (
	"bytes"
	"fmt"
	"math"
	"slices"
	"strings"
	"testing"

	"wharfinger/api"
	"wharfinger/probe"
)

// Numbers that tests put together, written out by hand.
const (
	nought = "\x00\x00\x00\x00"
	one    = "\x00\x00\x00\x01"
	two    = "\x00\x00\x00\x02"
	three  = "\x00\x00\x00\x03"
	four   = "\x00\x00\x00\x04"
	most   = "\xff\xff\xff\xff"
	taken  = nought + nought + nought
)

// known: a reply, and how it is put.
type known struct {
	reply api.Reply
	form  string
}

// forms: replies, and how they are put, written out by hand; the first seven have each How once.
var forms = []known{
	{api.Reply{XID: 1, How: api.AcOK, Body: []byte("a")}, one + one + taken + nought + "a"},
	{api.Reply{XID: 2, How: api.AcProg}, two + one + taken + one},
	{api.Reply{XID: 1, How: api.AcVersion, Low: 3, High: 4}, one + one + taken + two + three + four},
	{api.Reply{XID: 3, How: api.AcProc}, three + one + taken + three},
	{api.Reply{XID: 4, How: api.AcGarbage}, four + one + taken + four},
	{api.Reply{XID: 1, How: api.AcRefused, Low: 2, High: 3}, one + one + one + nought + two + three},
	{api.Reply{XID: 1, How: api.AcAuth, Low: 5}, one + one + one + one + "\x00\x00\x00\x05"},
	{api.Reply{}, nought + one + taken + nought},
	{api.Reply{XID: math.MaxUint32, Body: []byte(nought + most)}, most + one + taken + nought + nought + most},
	{api.Reply{XID: 0x01020304, Body: []byte{0, 255, 0}}, "\x01\x02\x03\x04" + one + taken + nought + "\x00\xff\x00"},
	{api.Reply{How: api.AcProg}, nought + one + taken + one},
	{api.Reply{How: api.AcVersion}, nought + one + taken + two + nought + nought},
	{api.Reply{XID: math.MaxUint32, How: api.AcVersion, Low: math.MaxUint32, High: math.MaxUint32}, most + one + taken + two + most + most},
	{api.Reply{XID: 1, How: api.AcVersion, Low: 0x05060708, High: 0x090a0b0c}, one + one + taken + two + "\x05\x06\x07\x08" + "\x09\x0a\x0b\x0c"},
	{api.Reply{XID: 1, How: api.AcVersion, Low: 9, High: 8}, one + one + taken + two + "\x00\x00\x00\x09" + "\x00\x00\x00\x08"},
	{api.Reply{How: api.AcRefused}, nought + one + one + nought + nought + nought},
	{api.Reply{XID: math.MaxUint32, How: api.AcRefused, Low: math.MaxUint32, High: math.MaxUint32}, most + one + one + nought + most + most},
	{api.Reply{XID: 1, How: api.AcRefused, Low: 0x05060708, High: 0x090a0b0c}, one + one + one + nought + "\x05\x06\x07\x08" + "\x09\x0a\x0b\x0c"},
	{api.Reply{How: api.AcAuth, Low: 1}, nought + one + one + one + one},
	{api.Reply{XID: math.MaxUint32, How: api.AcAuth, Low: 7}, most + one + one + one + "\x00\x00\x00\x07"},
}

// hows: one reply of each How.
func hows() []known { return forms[:7] }

// same: lists without anything are alike, nil or not. (R4)
func same(r, s api.Reply) bool {
	return r.XID == s.XID && r.How == s.How && r.Low == s.Low && r.High == s.High && bytes.Equal(r.Body, s.Body)
}

// nothing: not even an empty list stands beside an error. (R2)
func nothing(r api.Reply) bool { return same(r, api.Reply{}) && r.Body == nil }

// short: how many bytes there are, and their head, so that what is wrong with many can be read.
func short[B string | []byte](b B) string { return fmt.Sprintf("%d bytes, %.60q", len(b), b) }

// told: a reply, with no more of its Body than can be read.
func told(r api.Reply) string {
	return fmt.Sprintf("XID %d, How %d, %d, %d, Body %s", r.XID, r.How, r.Low, r.High, short(r.Body))
}

// number: one, as bytes, made otherwise than in the program.
func number(n uint32) string {
	return string([]byte{byte(n >> 24), byte(n >> 16), byte(n >> 8), byte(n)})
}

func wantPut(t *testing.T, r api.Reply, want string) {
	t.Helper()
	if b, e := Put(r); string(b) != want || e != api.OK {
		t.Errorf("Put(%s) = %s, %d; want %s", told(r), short(b), e, short(want))
	}
}

// wantRefused asks Put of a reply that may not be: the error, and nothing beside it. (R2)
func wantRefused(t *testing.T, r api.Reply, want api.Errno) {
	t.Helper()
	if b, e := Put(r); b != nil || e != want {
		t.Errorf("Put(%s) = %s, %d; want nothing, %d", told(r), short(b), e, want)
	}
}

func wantGet(t *testing.T, b string, want api.Reply) {
	t.Helper()
	if r, e := Get([]byte(b)); !same(r, want) || e != api.OK {
		t.Errorf("Get(%s) = %s, %d; want %s", short(b), told(r), e, told(want))
	}
}

func wantErr(t *testing.T, b string, want api.Errno) {
	t.Helper()
	if r, e := Get([]byte(b)); !nothing(r) || e != want {
		t.Errorf("Get(%s) = %s, %d; want nothing, %d", short(b), told(r), e, want)
	}
}

// P7.1: Put and Get of what is written out by hand: each How of the chapter's table; again and again, since a map is gone through in any order. (R5)
func TestForms(t *testing.T) {
	for range 50 {
		for _, f := range forms {
			wantPut(t, f.reply, f.form)
			wantGet(t, f.form, f.reply)
		}
	}
}

// P7.1: the chapter's examples.
func TestExamples(t *testing.T) {
	wantPut(t, api.Reply{XID: 1, How: api.AcOK, Body: []byte("a")}, one+one+strings.Repeat("\x00", 16)+"a")
	wantPut(t, api.Reply{XID: 1, How: api.AcVersion, Low: 3, High: 3}, one+one+taken+two+three+three)
	last := one + one + one + one + "\x00\x00\x00\x05"
	wantPut(t, api.Reply{XID: 1, How: api.AcAuth, Low: 5}, last)
	for _, r := range []api.Reply{{How: api.AcAuth}, {How: api.AcProg, Body: []byte("a")}, {How: 5}} {
		wantRefused(t, r, api.ErrArg)
	}
	wantErr(t, last+"\x00", api.ErrForm)
	wantErr(t, last[:len(last)-1], api.ErrShort)
	wantErr(t, one+nought+last[8:], api.ErrForm)
}

// P7.1: each number at its place, with every bit alone.
func TestBits(t *testing.T) {
	for bit := range 32 {
		n := uint32(1) << bit
		for _, f := range hows() {
			f.reply.XID = n
			wantPut(t, f.reply, number(n)+f.form[4:])
			wantGet(t, number(n)+f.form[4:], f.reply)
		}
		for _, f := range []known{
			{api.Reply{How: api.AcVersion, Low: n}, nought + one + taken + two + number(n) + nought},
			{api.Reply{How: api.AcVersion, High: n}, nought + one + taken + two + nought + number(n)},
			{api.Reply{How: api.AcRefused, Low: n}, nought + one + one + nought + number(n) + nought},
			{api.Reply{How: api.AcRefused, High: n}, nought + one + one + nought + nought + number(n)},
		} {
			wantPut(t, f.reply, f.form)
			wantGet(t, f.form, f.reply)
		}
	}
}

// P7.1: no How but those of the table, whatever else the reply has.
func TestPutHow(t *testing.T) {
	list := []api.Accept{255, 256, 257, 356, 65535, 65536, 65537, 65636, 1 << 24, 1<<31 - 1, 1 << 31, 1<<31 + 1, 1<<31 + 100, math.MaxUint32 - 1, math.MaxUint32}
	for how := api.Accept(5); how < 250; how++ {
		if how != 100 && how != 101 {
			list = append(list, how)
		}
	}
	for _, how := range list {
		for _, r := range []api.Reply{{}, {XID: 1}, {Low: 1}, {Low: 2, High: 2}, {Body: []byte("a")}, {XID: 1, Low: 1, High: 1, Body: []byte("a")}, {Body: make([]byte, 65537)}} {
			r.How = how
			wantRefused(t, r, api.ErrArg)
		}
	}
}

// somewhere: numbers that are not zero.
var somewhere = []uint32{1, 2, 5, 7, 255, 256, 65536, 1 << 24, 1<<31 - 1, 1 << 31, math.MaxUint32}

// P7.1, R4: of each How what its row does not name, each alone; but a Body that is empty is none, nil or not.
func TestPutNotNamed(t *testing.T) {
	for _, f := range hows() {
		low := f.reply.How == api.AcVersion || f.reply.How == api.AcRefused || f.reply.How == api.AcAuth
		high := f.reply.How == api.AcVersion || f.reply.How == api.AcRefused
		for _, n := range somewhere {
			if r := f.reply; !low {
				r.Low = n
				wantRefused(t, r, api.ErrArg)
			}
			if r := f.reply; !high {
				r.High = n
				wantRefused(t, r, api.ErrArg)
			}
		}
		if f.reply.How == api.AcOK {
			continue
		}
		for _, body := range []string{"\x00", "a", nought, one + one, strings.Repeat("b", 65536)} {
			r := f.reply
			r.Body = []byte(body)
			wantRefused(t, r, api.ErrArg)
		}
		for _, none := range [][]byte{nil, {}, make([]byte, 0, 9), make([]byte, 70000)[:0]} {
			r := f.reply
			r.Body = none
			wantPut(t, r, f.form)
		}
	}
}

// P7.1: Low of AcAuth is 1 to 7, put or got.
func TestAuth(t *testing.T) {
	ahead := three + one + one + one
	for low := uint32(1); low < 8; low++ {
		r := api.Reply{XID: 3, How: api.AcAuth, Low: low}
		wantPut(t, r, ahead+number(low))
		wantGet(t, ahead+number(low), r)
	}
	for _, low := range []uint32{0, 8, 9, 13, 14, 100, 255, 256, 257, 263, 65536, 65537, 1 << 24, 1<<24 + 1, 1<<31 - 1, 1 << 31, 1<<31 + 5, math.MaxUint32} {
		wantRefused(t, api.Reply{XID: 3, How: api.AcAuth, Low: low}, api.ErrArg)
		for _, more := range probe.Behind() {
			wantErr(t, ahead+number(low)+more, api.ErrForm)
		}
	}
}

// P7.1: a Body that makes the bytes MaxMessage together, and those beside it; what is got of them is the same.
func TestPutLimit(t *testing.T) {
	head := two + one + taken + nought
	for _, size := range []int{0, 1, 2, 3, 4, 5, 65510, 65511, 65512} {
		r := api.Reply{XID: 2, Body: probe.Filled(size)}
		wantPut(t, r, head+string(r.Body))
		wantGet(t, head+string(r.Body), r)
	}
	for _, size := range []int{65513, 65514, 65516, 65535, 65536, 65537, 131072, 1 << 20} {
		wantRefused(t, api.Reply{XID: 2, Body: make([]byte, size)}, api.ErrLimit)
	}
}

// P7.1, R2: a reply that may not be and is too great at once may not be.
func TestPutOrder(t *testing.T) {
	for _, size := range []int{65513, 65536, 65537, 1 << 20} {
		body := make([]byte, size)
		for _, r := range []api.Reply{
			{Low: 1, Body: body},
			{High: 1, Body: body},
			{How: api.AcProg, Body: body},
			{How: api.AcVersion, Low: 3, High: 3, Body: body},
			{How: api.AcProc, Body: body},
			{How: api.AcGarbage, Body: body},
			{How: api.AcRefused, Low: 2, High: 2, Body: body},
			{How: api.AcAuth, Low: 1, Body: body},
			{How: api.AcAuth, Body: body},
			{How: 5, Body: body},
			{How: 102, Body: body},
		} {
			wantRefused(t, r, api.ErrArg)
		}
	}
}

// P7.1, R4: an empty Body of AcOK, nil or not.
func TestNoBody(t *testing.T) {
	for _, none := range [][]byte{nil, {}, make([]byte, 0, 9), make([]byte, 70000)[:0]} {
		wantPut(t, api.Reply{XID: 2, Body: none}, two+one+taken+nought)
	}
	wantGet(t, two+one+taken+nought, api.Reply{XID: 2})
}

// P7.1: bytes cut off at every place of the numbers of each How; their spare room does not count.
func TestGetShort(t *testing.T) {
	for _, f := range forms {
		whole := []byte(f.form)
		for size := range len(whole) - len(f.reply.Body) {
			if r, e := Get(whole[:size]); !nothing(r) || e != api.ErrShort {
				t.Errorf("Get(%s, the first %d) = %s, %d; want ErrShort", short(f.form), size, told(r), e)
			}
		}
	}
	if r, e := Get(nil); !nothing(r) || e != api.ErrShort {
		t.Errorf("Get(nil) = %s, %d; want ErrShort", told(r), e)
	}
}

// P7.1: more than MaxMessage bytes, whatever is wrong with them beside that; MaxMessage bytes are read.
func TestGetLimit(t *testing.T) {
	heads := []string{"", one + nought, one + one + two, one + one + taken + "\x00\x00\x00\x05", one + one + one + one + nought}
	for _, f := range forms {
		heads = append(heads, f.form)
	}
	for _, head := range heads {
		for _, size := range []int{65537, 65538, 65540, 131072, 1 << 20} {
			wantErr(t, head+strings.Repeat("\x00", size-len(head)), api.ErrLimit)
		}
	}
	for _, f := range forms {
		more := strings.Repeat("b", 65536-len(f.form))
		wantErr(t, f.form+more+"b", api.ErrLimit)
		if f.reply.How != api.AcOK {
			wantErr(t, f.form+more, api.ErrForm)
			continue
		}
		r := f.reply
		r.Body = []byte(string(r.Body) + more)
		wantGet(t, f.form+more, r)
	}
	wantErr(t, strings.Repeat("\x00", 65536), api.ErrForm)
}

// others: numbers that are none of these.
func others(not ...string) []string {
	var list []string
	for _, n := range []string{nought, one, two, three, four, "\x00\x00\x00\x05", "\x00\x00\x00\x06", "\x00\x00\x00\x64", "\x00\x00\x00\x65", "\x00\x00\x00\xff", "\x00\x00\x01\x00", "\x00\x00\x01\x01", "\x00\x01\x00\x00", "\x00\x01\x00\x01", "\x01\x00\x00\x00", "\x01\x00\x00\x01", "\x02\x00\x00\x00", "\x7f\xff\xff\xff", "\x80\x00\x00\x00", "\x80\x00\x00\x01", most} {
		if !slices.Contains(not, n) {
			list = append(list, n)
		}
	}
	return list
}

// fixed: the numbers of a How that are fixed, by their places in its bytes, each with all that may stand there behind what stands ahead of it.
func fixed(how api.Accept) map[int][]string {
	if how == api.AcRefused || how == api.AcAuth {
		return map[int][]string{4: {one}, 8: {nought, one}, 12: {nought, one}}
	}
	return map[int][]string{4: {one}, 8: {nought, one}, 12: {nought}, 16: {nought}, 20: {nought, one, two, three, four}}
}

// P7.1: each number that is fixed, and each that tells How, none that may stand there: with all that stands behind it, with nothing, and with less than a number.
func TestGetFixed(t *testing.T) {
	for _, f := range forms {
		for place, may := range fixed(f.reply.How) {
			ahead, behind := f.form[:place], f.form[place+4:]
			for _, n := range others(may...) {
				for _, more := range append(probe.Behind(), behind, behind+"\x00", "\xff\xff", strings.Repeat("\x00", 60000)) {
					wantErr(t, ahead+n+more, api.ErrForm)
				}
			}
			for size := range 4 {
				wantErr(t, ahead+strings.Repeat("\xff", size), api.ErrShort)
			}
		}
	}
}

// P7.1: bytes left behind, of every How but AcOK.
func TestGetBehind(t *testing.T) {
	for _, f := range forms {
		for _, more := range append(probe.Behind()[1:], f.form, one, strings.Repeat("\x00", 60000)) {
			if f.reply.How != api.AcOK {
				wantErr(t, f.form+more, api.ErrForm)
			}
		}
	}
}

// P7.2: what stands behind is more of the Body of AcOK, and put so.
func TestMoreBody(t *testing.T) {
	for _, f := range forms {
		for _, more := range append(probe.Behind(), f.form, strings.Repeat("\x00", 60000)) {
			if f.reply.How == api.AcOK {
				r := f.reply
				r.Body = []byte(string(r.Body) + more)
				wantGet(t, f.form+more, r)
				wantPut(t, r, f.form+more)
			}
		}
	}
}

// model says what P7.1 has for numbers and so many bytes behind them, fewer than a number: the chapter's table, walked by hand.
func model(numbers []uint32, loose int) (r api.Reply, e api.Errno) {
	next := func(may ...uint32) uint32 {
		if e != api.OK {
			return 0
		}
		if len(numbers) == 0 {
			e = api.ErrShort
			return 0
		}
		n := numbers[0]
		numbers = numbers[1:]
		if len(may) > 0 && !slices.Contains(may, n) {
			e = api.ErrForm
		}
		return n
	}
	r.XID = next()
	next(1)
	if next(0, 1) == 0 {
		next(0)
		next(0)
		r.How = api.Accept(next(0, 1, 2, 3, 4))
	} else if next(0, 1) == 0 {
		r.How = api.AcRefused
	} else {
		r.How = api.AcAuth
	}
	if e != api.OK {
		return api.Reply{}, e
	}
	switch r.How {
	case api.AcVersion, api.AcRefused:
		r.Low = next()
		r.High = next()
	case api.AcAuth:
		r.Low = next(1, 2, 3, 4, 5, 6, 7)
	}
	if e == api.OK && r.How != api.AcOK && len(numbers)+loose > 0 {
		e = api.ErrForm
	}
	if e != api.OK {
		return api.Reply{}, e
	}
	for _, n := range numbers {
		r.Body = append(r.Body, number(n)...)
	}
	if r.How == api.AcOK {
		r.Body = append(r.Body, make([]byte, loose)...)
	}
	return r, api.OK
}

// lists tells every list of up to so many numbers, each one of a few that are in the chapter's table or beside those.
func lists(ahead []uint32, many int, yield func([]uint32)) {
	yield(ahead)
	if many == 0 {
		return
	}
	for _, n := range []uint32{0, 1, 2, 4, 5, 7, 8} {
		lists(append(slices.Clone(ahead), n), many-1, yield)
	}
}

// P7.1, P7.2, R2: numbers of all sorts behind each other: the first error from the front, else the reply, which is put as these bytes.
func TestGetOrder(t *testing.T) {
	for _, begin := range [][]uint32{{}, {9, 1}, {9, 1, 0, 0}, {9, 1, 0, 0, 0}, {9, 1, 1}, {9, 0}} {
		lists(begin, 4, func(list []uint32) {
			var b strings.Builder
			for _, n := range list {
				b.WriteString(number(n))
			}
			for loose := range 4 {
				form := b.String() + strings.Repeat("\x00", loose)
				r, e := model(list, loose)
				if e != api.OK {
					wantErr(t, form, e)
					continue
				}
				wantGet(t, form, r)
				wantPut(t, r, form)
			}
		})
	}
}

// follows says what is wrong, if what is got of bytes was not put so, or something stands beside an error. (P7.2, P0.1, R2)
func follows(b []byte) string {
	r, e := Get(b)
	if e != api.OK {
		if !nothing(r) {
			return fmt.Sprintf("Get(%s) = %s beside %d", short(b), told(r), e)
		}
		return ""
	}
	if again, e := Put(r); !bytes.Equal(again, b) || e != api.OK {
		return fmt.Sprintf("Get(%s) = %s, which is put as %s, %d", short(b), told(r), short(again), e)
	}
	return ""
}

// P7.2, P0.1: what is got is put as the bytes that it had, at every byte of every place.
func TestGotIsPut(t *testing.T) {
	for _, f := range forms {
		for b := range probe.EveryByte(f.form) {
			if wrong := follows(b); wrong != "" {
				t.Fatal(wrong)
			}
		}
	}
}

// mayBe says what P7.1 has for a reply that is put.
func mayBe(r api.Reply) api.Errno {
	wrong := false
	switch r.How {
	case 0:
		wrong = r.Low != 0 || r.High != 0
	case 1, 3, 4:
		wrong = r.Low != 0 || r.High != 0 || len(r.Body) != 0
	case 2, 100:
		wrong = len(r.Body) != 0
	case 101:
		wrong = r.Low < 1 || r.Low > 7 || r.High != 0 || len(r.Body) != 0
	default:
		wrong = true
	}
	switch {
	case wrong:
		return api.ErrArg
	case 24+len(r.Body) > 65536:
		return api.ErrLimit
	}
	return api.OK
}

// putIsGot says what is wrong, if a reply is not put as it may be, or not got again. (P7.1, P7.2, R2)
func putIsGot(r api.Reply) string {
	b, e := Put(r)
	if e != mayBe(r) || e != api.OK && b != nil {
		return fmt.Sprintf("Put(%s) = %s, %d; want %d", told(r), short(b), e, mayBe(r))
	}
	if e != api.OK {
		return ""
	}
	if again, e := Get(b); !same(again, r) || e != api.OK {
		return fmt.Sprintf("Put(%s) = %s, which is got as %s, %d", told(r), short(b), told(again), e)
	}
	return ""
}

// P7.1, P7.2, P0.1: what is put is got, of each How with each Low, High and Body.
func TestPutIsGot(t *testing.T) {
	numbers := append([]uint32{0, 3, 4, 6, 8}, somewhere...)
	for how := range api.Accept(110) {
		for _, low := range numbers {
			for _, high := range numbers {
				for _, body := range []string{"", "\x00", "abcde", nought + one} {
					if wrong := putIsGot(api.Reply{XID: low ^ high, How: how, Low: low, High: high, Body: []byte(body)}); wrong != "" {
						t.Fatal(wrong)
					}
				}
			}
		}
	}
}

// P7.1, P7.2, R1, R2: any bytes, and any reply.
func FuzzWhatFollows(f *testing.F) {
	for _, k := range forms {
		f.Add([]byte(k.form), k.reply.XID, uint32(k.reply.How), k.reply.Low, k.reply.High, k.reply.Body)
	}
	f.Fuzz(func(t *testing.T, b []byte, xid, how, low, high uint32, body []byte) {
		if wrong := follows(b); wrong != "" {
			t.Fatal(wrong)
		}
		if wrong := putIsGot(api.Reply{XID: xid, How: api.Accept(how), Low: low, High: high, Body: body}); wrong != "" {
			t.Fatal(wrong)
		}
	})
}

// R4: what is handed in is not changed, its spare room neither.
func TestHandedInStays(t *testing.T) {
	for _, f := range forms {
		for size := range len(f.form) + 1 {
			in := []byte(f.form + "behind")
			Get(in[:size])
			if string(in) != f.form+"behind" {
				t.Errorf("Get of the first %d of %s changed them", size, short(f.form))
			}
		}
		body := []byte(string(f.reply.Body) + "behind")
		r := f.reply
		r.Body = body[:len(r.Body)]
		wantPut(t, r, f.form)
		if string(body) != string(f.reply.Body)+"behind" {
			t.Errorf("Put(%s) left %q", told(f.reply), body)
		}
	}
	body := []byte("behind")
	Put(api.Reply{How: api.AcProg, Body: body[:3]})
	Put(api.Reply{How: 5, Body: body[:3]})
	if string(body) != "behind" {
		t.Errorf("Put of what may not be left %q", body)
	}
}

// R4: what Put answers is new memory, spare room too: it changes with nothing else, and nothing changes with it.
func TestPutSharesNothing(t *testing.T) {
	for _, f := range forms {
		r := f.reply
		r.Body = bytes.Clone(r.Body)
		first, _ := Put(r)
		second, _ := Put(r)
		probe.Scribble(first)
		if !same(r, f.reply) || string(second) != f.form {
			t.Errorf("%s: %s: changed with an answer", told(f.reply), short(second))
		}
		wantPut(t, r, f.form)
		probe.Scribble(r.Body)
		if string(second) != f.form {
			t.Errorf("%s: %s: changed with the Body", told(f.reply), short(second))
		}
	}
}

// R4: what Get answers is new memory likewise.
func TestGetSharesNothing(t *testing.T) {
	for _, f := range forms {
		in := []byte(f.form + "behind")
		first, _ := Get(in[:len(f.form)])
		second, _ := Get(in[:len(f.form)])
		probe.Scribble(first.Body)
		if string(in) != f.form+"behind" || !same(second, f.reply) {
			t.Errorf("%s: %s: changed with an answer", told(f.reply), told(second))
		}
		wantGet(t, f.form, f.reply)
		probe.Scribble(in)
		if !same(second, f.reply) {
			t.Errorf("%s: %s: changed with the bytes", told(f.reply), told(second))
		}
	}
}
