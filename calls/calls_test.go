package calls

import (
	"bytes"
	"fmt"
	"math"
	"slices"
	"strings"
	"testing"

	"wharfinger/api"
	"wharfinger/creds"
	"wharfinger/opaque"
	"wharfinger/probe"
)

// The parts of a call's bytes that tests put together, written out by hand.
const (
	nought = "\x00\x00\x00\x00"
	one    = "\x00\x00\x00\x01"
	two    = "\x00\x00\x00\x02"
	proof  = nought + nought
	// who: stamp 7, machine ab, User 1, Group 2, Groups 3.
	who = "\x00\x00\x00\x07" + "\x00\x00\x00\x02ab\x00\x00" + one + two + one + "\x00\x00\x00\x03"
)

// known: a call, and how it is put.
type known struct {
	call api.Call
	form string
}

// forms: calls, and how they are put, written out by hand.
var forms = []known{
	{api.Call{}, nought + nought + two + nought + nought + nought + nought + nought + proof},
	{api.Call{XID: 1, Prog: 100003, Vers: 3}, one + nought + two + "\x00\x01\x86\xa3" + "\x00\x00\x00\x03" + nought + nought + nought + proof},
	{api.Call{XID: 1, Prog: 100003, Vers: 3, Body: []byte("ab")}, one + nought + two + "\x00\x01\x86\xa3" + "\x00\x00\x00\x03" + nought + nought + nought + proof + "ab"},
	{api.Call{XID: 0x01020304, Prog: 0x05060708, Vers: 0x090a0b0c, Proc: 0x0d0e0f10, Body: []byte{0, 255, 0}}, "\x01\x02\x03\x04" + nought + two + "\x05\x06\x07\x08" + "\x09\x0a\x0b\x0c" + "\x0d\x0e\x0f\x10" + nought + nought + proof + "\x00\xff\x00"},
	{api.Call{XID: 5, Prog: 6, Vers: 7, Proc: 8, Flavor: 1}, "\x00\x00\x00\x05" + nought + two + "\x00\x00\x00\x06" + "\x00\x00\x00\x07" + "\x00\x00\x00\x08" + one + "\x00\x00\x00\x14" + nought + nought + nought + nought + nought + proof},
	{api.Call{XID: 5, Prog: 6, Vers: 7, Proc: 8, Flavor: 1, Machine: "ab", Stamp: 7, Cred: api.Cred{User: 1, Group: 2, Groups: []uint32{3}}, Body: []byte("body")}, "\x00\x00\x00\x05" + nought + two + "\x00\x00\x00\x06" + "\x00\x00\x00\x07" + "\x00\x00\x00\x08" + one + "\x00\x00\x00\x1c" + who + proof + "body"},
	{api.Call{XID: math.MaxUint32, Prog: math.MaxUint32, Vers: math.MaxUint32, Proc: math.MaxUint32, Flavor: 1, Machine: "\xff", Stamp: math.MaxUint32, Cred: api.Cred{User: math.MaxUint32, Group: math.MaxUint32}, Body: []byte(nought)}, "\xff\xff\xff\xff" + nought + two + "\xff\xff\xff\xff" + "\xff\xff\xff\xff" + "\xff\xff\xff\xff" + one + "\x00\x00\x00\x18" + "\xff\xff\xff\xff" + "\x00\x00\x00\x01\xff\x00\x00\x00" + "\xff\xff\xff\xff" + "\xff\xff\xff\xff" + nought + proof + nought},
}

// great: who calls by the longest machine and the most Groups.
func great() api.Call {
	groups := make([]uint32, api.MaxGroups)
	for i := range groups {
		groups[i] = 0x7f000100 + uint32(i)
	}
	return api.Call{XID: 1, Prog: 2, Vers: 3, Proc: 4, Flavor: 1, Machine: string(probe.Filled(api.MaxMachine)), Stamp: 5, Cred: api.Cred{User: 6, Group: 7, Groups: groups}}
}

// all: the forms, and the great one.
func all() []known {
	c := great()
	form := one + nought + two + two + "\x00\x00\x00\x03" + "\x00\x00\x00\x04" + one + "\x00\x00\x01\x54" + "\x00\x00\x00\x05" + "\x00\x00\x00\xff" + c.Machine + "\x00" + "\x00\x00\x00\x06" + "\x00\x00\x00\x07" + "\x00\x00\x00\x10"
	for i := range c.Cred.Groups {
		form += string([]byte{0x7f, 0, 1, byte(i)})
	}
	return append(slices.Clone(forms), known{c, form + proof})
}

// same: lists without anything are alike, nil or not. (R4)
func same(c, d api.Call) bool {
	return c.XID == d.XID && c.Prog == d.Prog && c.Vers == d.Vers && c.Proc == d.Proc && c.Flavor == d.Flavor && c.Machine == d.Machine && c.Stamp == d.Stamp && c.Cred.User == d.Cred.User && c.Cred.Group == d.Cred.Group && slices.Equal(c.Cred.Groups, d.Cred.Groups) && bytes.Equal(c.Body, d.Body)
}

// short: how many bytes there are, and their head, so that what is wrong with many can be read.
func short[B string | []byte](b B) string { return fmt.Sprintf("%d bytes, %.90q", len(b), b) }

// tell: a call, with no more of its texts and lists than can be read.
func tell(c api.Call) string {
	return fmt.Sprintf("%d %d %d %d, Flavor %d, Machine %s, Stamp %d, Cred %v, Body %s", c.XID, c.Prog, c.Vers, c.Proc, c.Flavor, short(c.Machine), c.Stamp, c.Cred, short(c.Body))
}

func wantPut(t *testing.T, c api.Call, want string) {
	t.Helper()
	if b, e := Put(c); string(b) != want || e != api.OK {
		t.Errorf("Put(%s) = %s, %d; want %s", tell(c), short(b), e, short(want))
	}
}

// wantRefused asks Put of a call that may not be: the error, and nothing beside it. (R2)
func wantRefused(t *testing.T, c api.Call, want api.Errno) {
	t.Helper()
	if b, e := Put(c); b != nil || e != want {
		t.Errorf("Put(%s) = %s, %d; want nothing, %d", tell(c), short(b), e, want)
	}
}

func wantGet(t *testing.T, b string, want api.Call) {
	t.Helper()
	if c, e := Get([]byte(b)); !same(c, want) || e != api.OK {
		t.Errorf("Get(%s) = %s, %d; want %s", short(b), tell(c), e, tell(want))
	}
}

// nothing: not even an empty list stands beside an error. (R2)
func nothing(c api.Call) bool {
	return same(c, api.Call{}) && c.Body == nil && c.Cred.Groups == nil
}

func wantErr(t *testing.T, b string, want api.Errno) {
	t.Helper()
	if c, e := Get([]byte(b)); !nothing(c) || e != want {
		t.Errorf("Get(%s) = %s, %d; want nothing, %d", short(b), tell(c), e, want)
	}
}

// P6.1: Put and Get of what is written out by hand.
func TestForms(t *testing.T) {
	for _, f := range all() {
		wantPut(t, f.call, f.form)
		wantGet(t, f.form, f.call)
	}
}

// P6.1: each number at its place, with every bit alone.
func TestBits(t *testing.T) {
	for bit := range 32 {
		n := uint32(1) << bit
		number := string([]byte{byte(n >> 24), byte(n >> 16), byte(n >> 8), byte(n)})
		for place, c := range map[int]api.Call{0: {XID: n}, 12: {Prog: n}, 16: {Vers: n}, 20: {Proc: n}} {
			form := forms[0].form[:place] + number + forms[0].form[place+4:]
			wantPut(t, c, form)
			wantGet(t, form, c)
		}
	}
}

// P6.1: no Flavor but 0 and 1, whatever else the call has.
func TestPutFlavor(t *testing.T) {
	for _, flavor := range []uint32{2, 3, 6, 255, 256, 257, 65536, 1 << 24, 1<<31 - 1, 1 << 31, 1<<31 + 1, math.MaxUint32} {
		for _, c := range []api.Call{{}, forms[5].call, great(), {Body: make([]byte, 65537)}} {
			c.Flavor = flavor
			wantRefused(t, c, api.ErrArg)
		}
	}
}

// P6.1, R4: of the Flavor 0 nothing is said of who calls: each thing alone, and Groups that are there but noughts; no Groups, nil or not, are nothing.
func TestPutNobody(t *testing.T) {
	for _, c := range []api.Call{
		{Machine: "m"},
		{Machine: "\x00"},
		{Stamp: 1},
		{Stamp: 1 << 31},
		{Cred: api.Cred{User: 1}},
		{Cred: api.Cred{User: 1 << 31}},
		{Cred: api.Cred{Group: 1}},
		{Cred: api.Cred{Group: 1 << 31}},
		{Cred: api.Cred{Groups: []uint32{0}}},
		{Cred: api.Cred{Groups: []uint32{1}}},
		{Cred: api.Cred{Groups: make([]uint32, 17)}},
		{Cred: creds.Nobody()},
		{Machine: strings.Repeat("m", 256)},
		{Machine: "m", Stamp: 1, Cred: api.Cred{User: 1, Group: 1, Groups: []uint32{1}}},
	} {
		wantRefused(t, c, api.ErrArg)
		c.XID, c.Prog, c.Vers, c.Proc, c.Body = 1, 100003, 3, 4, []byte("body")
		wantRefused(t, c, api.ErrArg)
	}
	for _, none := range [][]uint32{nil, {}, make([]uint32, 0, 20), make([]uint32, 17)[:0]} {
		wantPut(t, api.Call{Cred: api.Cred{Groups: none}}, forms[0].form)
		wantPut(t, api.Call{XID: 5, Prog: 6, Vers: 7, Proc: 8, Flavor: 1, Cred: api.Cred{Groups: none}}, forms[4].form)
	}
}

// P6.1: of the Flavor 1 what creds.Put refuses is refused, one thing or both.
func TestPutWho(t *testing.T) {
	for _, size := range []int{0, 1, 254, 255, 256, 257, 512, 65537} {
		for _, many := range []int{0, 1, 15, 16, 17, 18, 256, 65537} {
			c := api.Call{XID: 9, Flavor: 1, Machine: strings.Repeat("m", size), Stamp: 1, Cred: api.Cred{User: 2, Group: 3, Groups: make([]uint32, many)}, Body: []byte("x")}
			if size > 255 || many > 16 {
				wantRefused(t, c, api.ErrArg)
				continue
			}
			b, e := Put(c)
			if e != api.OK || len(b) != 40+20+size+opaque.Pad(size)+4*many+1 {
				t.Errorf("Put(machine of %d bytes, %d Groups) = %s, %d", size, many, short(b), e)
			}
			wantGet(t, string(b), c)
		}
	}
}

// P6.1: a Body that makes the bytes MaxMessage together, and those beside it; what is got of them is the same.
func TestPutLimit(t *testing.T) {
	for _, f := range all() {
		c := f.call
		head := f.form[:len(f.form)-len(c.Body)]
		for _, size := range []int{65535, 65536} {
			c.Body = probe.Filled(size - len(head))
			wantPut(t, c, head+string(c.Body))
			wantGet(t, head+string(c.Body), c)
		}
		for _, size := range []int{65537, 65540, 131072, 1 << 20} {
			c.Body = make([]byte, size-len(head))
			wantRefused(t, c, api.ErrLimit)
		}
		c.Body = make([]byte, 65536)
		wantRefused(t, c, api.ErrLimit)
	}
}

// P6.1, R2: a call that may not be and is too great at once may not be.
func TestPutOrder(t *testing.T) {
	body := make([]byte, 65536)
	for _, c := range []api.Call{
		{Flavor: 2, Body: body},
		{Flavor: 0, Stamp: 1, Body: body},
		{Flavor: 0, Machine: "m", Body: body},
		{Flavor: 0, Cred: api.Cred{Groups: []uint32{0}}, Body: body},
		{Flavor: 1, Machine: strings.Repeat("m", 256), Body: body},
		{Flavor: 1, Cred: api.Cred{Groups: make([]uint32, 17)}, Body: body},
		{Flavor: 1, Machine: strings.Repeat("m", 70000)},
		{Flavor: 1, Cred: api.Cred{Groups: make([]uint32, 70000)}},
	} {
		wantRefused(t, c, api.ErrArg)
	}
}

// P6.1, R4: an empty Body, nil or not.
func TestNoBody(t *testing.T) {
	for _, none := range [][]byte{nil, {}, make([]byte, 0, 9), make([]byte, 70000)[:0]} {
		for _, f := range []known{forms[0], forms[1], forms[4]} {
			f.call.Body = none
			wantPut(t, f.call, f.form)
			wantGet(t, f.form, f.call)
		}
	}
}

// P6.1: bytes cut off at every place of the head; their spare room does not count.
func TestGetShort(t *testing.T) {
	for _, f := range all() {
		whole := []byte(f.form)
		for size := range len(whole) - len(f.call.Body) {
			if c, e := Get(whole[:size]); !nothing(c) || e != api.ErrShort {
				t.Errorf("Get(%s, the first %d) = %s, %d; want ErrShort", short(f.form), size, tell(c), e)
			}
		}
	}
	if c, e := Get(nil); !nothing(c) || e != api.ErrShort {
		t.Errorf("Get(nil) = %s, %d; want ErrShort", tell(c), e)
	}
}

// P6.1: more than MaxMessage bytes, whatever is wrong with them beside that; MaxMessage bytes are read.
func TestGetLimit(t *testing.T) {
	for _, head := range []string{"", forms[1].form, forms[5].form, one + one, one + nought + one, ahead(two), ahead(one) + "\xff\xff\xff\xff", ahead(nought) + one + "a\x00\x00\x01", ahead(nought) + nought + one} {
		for _, size := range []int{65537, 65538, 65540, 131072, 1 << 20} {
			wantErr(t, head+strings.Repeat("\x00", size-len(head)), api.ErrLimit)
		}
	}
	wantErr(t, strings.Repeat("\x00", 65536), api.ErrForm)
	for _, f := range all() {
		more := strings.Repeat("b", 65536-len(f.form))
		f.call.Body = []byte(string(f.call.Body) + more)
		wantGet(t, f.form+more, f.call)
		wantErr(t, f.form+more+"b", api.ErrLimit)
	}
}

// others: numbers that are not the one.
func others(not string) []string {
	var list []string
	for _, n := range []string{nought, one, two, "\x00\x00\x00\x03", "\x00\x00\x00\xff", "\x00\x00\x01\x00", "\x00\x00\x01\x02", "\x00\x01\x00\x00", "\x01\x00\x00\x00", "\x01\x00\x00\x02", "\x02\x00\x00\x00", "\x7f\xff\xff\xff", "\x80\x00\x00\x00", "\x80\x00\x00\x02", "\xff\xff\xff\xff"} {
		if n != not {
			list = append(list, n)
		}
	}
	return list
}

// P6.1: each number that is fixed, another one, with all that stands behind it, with nothing, and with less than a number.
func TestGetFixed(t *testing.T) {
	for _, f := range all() {
		for _, fixed := range []struct {
			place int
			want  string
		}{{4, nought}, {8, two}, {len(f.form) - len(f.call.Body) - 8, nought}} {
			ahead, behind := f.form[:fixed.place], f.form[fixed.place+4:]
			for _, n := range others(fixed.want) {
				for _, more := range append(probe.Behind(), behind, "\xff\xff") {
					wantErr(t, ahead+n+more, api.ErrForm)
				}
			}
			for size := range 4 {
				wantErr(t, ahead+strings.Repeat("\xff", size), api.ErrShort)
			}
		}
	}
}

// P6.1: a Flavor above 1, with all that stands behind it, and with nothing.
func TestGetFlavor(t *testing.T) {
	for _, f := range all() {
		for _, n := range others(nought) {
			if n != one {
				for _, more := range append(probe.Behind(), f.form[28:]) {
					wantErr(t, f.form[:24]+n+more, api.ErrForm)
				}
			}
		}
	}
}

// ahead: what stands ahead of who calls, of the Flavor.
func ahead(flavor string) string {
	return one + nought + two + "\x00\x01\x86\xa3" + "\x00\x00\x00\x03" + one + flavor
}

// P6.1: who calls of more than MaxAuth bytes, with the bytes there and without; of MaxAuth bytes it is read.
func TestGetWhoLimit(t *testing.T) {
	for _, flavor := range []string{nought, one} {
		for _, size := range []string{"\x00\x00\x01\x91", "\x00\x00\x01\x92", "\x00\x00\x01\x94", "\x00\x00\x02\x00", "\x00\x01\x00\x00", "\x00\x01\x00\x14", "\x01\x00\x00\x14", "\x7f\xff\xff\xff", "\x80\x00\x00\x00", "\xff\xff\xff\xff"} {
			for _, more := range append(probe.Behind(), who+proof, strings.Repeat("\x00", 404), strings.Repeat("\x00", 500), strings.Repeat("\xff", 500), strings.Repeat("\x00", 65000)) {
				wantErr(t, ahead(flavor)+size+more, api.ErrLimit)
			}
		}
		wantErr(t, ahead(flavor)+"\x00\x00\x01\x90"+who+proof, api.ErrShort)
		wantErr(t, ahead(flavor)+"\x00\x00\x01\x90"+strings.Repeat("\x00", 399), api.ErrShort)
		wantErr(t, ahead(flavor)+"\x00\x00\x01\x90"+strings.Repeat("\x00", 400), api.ErrForm)
		wantErr(t, ahead(flavor)+"\x00\x00\x01\x90"+strings.Repeat("\x00", 400)+proof, api.ErrForm)
	}
	wantErr(t, ahead(one)+"\x00\x00\x01\x90"+nought+"\x00\x00\x01\x00"+strings.Repeat("\x00", 392)+proof, api.ErrLimit)
	wantErr(t, ahead(one)+"\x00\x00\x01\x8f"+nought+"\x00\x00\x01\x00"+strings.Repeat("\x00", 392)+proof, api.ErrLimit)
}

// P6.1: a padding byte of who calls that is not 0, ahead of what is wrong with it else.
func TestGetWhoPadding(t *testing.T) {
	for _, flavor := range []string{nought, one} {
		for size := 1; size < 30; size++ {
			told := string([]byte{0, 0, 0, byte(size)}) + strings.Repeat("\x00", size+opaque.Pad(size))
			for bad := range probe.Spoilt(told, opaque.Pad(size)) {
				wantErr(t, ahead(flavor)+bad, api.ErrForm)
				wantErr(t, ahead(flavor)+bad+proof, api.ErrForm)
				wantErr(t, ahead(flavor)+bad[:len(bad)-1], api.ErrShort)
			}
		}
	}
}

// P6.1: something told of who calls in the Flavor 0, be it right or not, with what stands behind it and without.
func TestGetNobody(t *testing.T) {
	for _, told := range []string{"\x00", "m", "ab", "abc", nought, who, who + who, strings.Repeat("\x00", 20), strings.Repeat("\xff", 400)} {
		put := string(opaque.Put([]byte(told)))
		for _, more := range append(probe.Behind(), proof, proof+"body") {
			wantErr(t, ahead(nought)+put+more, api.ErrForm)
		}
	}
}

// P6.1: of the Flavor 1 each error of creds.Get, though the message goes on behind who calls, be that right or not.
func TestGetWho(t *testing.T) {
	const name = "\x00\x00\x00\x02ab\x00\x00"
	for _, c := range []struct {
		told string
		want api.Errno
	}{
		{"", api.ErrShort},
		{nought, api.ErrShort},
		{nought[:3], api.ErrShort},
		{one + name, api.ErrShort},
		{who[:len(who)-4], api.ErrShort},
		{who[:len(who)-1], api.ErrShort},
		{one + "\x00\x00\x01\x00", api.ErrLimit},
		{one + "\xff\xff\xff\xff" + who, api.ErrLimit},
		{one + name + one + two + "\x00\x00\x00\x11", api.ErrLimit},
		{one + name + one + two + "\x00\x00\x00\x11" + strings.Repeat(one, 17), api.ErrLimit},
		{one + "\x00\x00\x00\x02ab\x00\x01" + one + two + nought, api.ErrForm},
		{who + "\x00", api.ErrForm},
		{who + nought, api.ErrForm},
		{who + who, api.ErrForm},
	} {
		put := string(opaque.Put([]byte(c.told)))
		for _, more := range append(probe.Behind(), proof, proof+"body", one+one, nought+"\xff\xff\xff\xff") {
			wantErr(t, ahead(one)+put+more, c.want)
		}
	}
}

// P6.1: something in the place of the last opaque.Put of nothing, of either Flavor.
func TestGetProof(t *testing.T) {
	for _, f := range all() {
		ahead := f.form[:len(f.form)-len(f.call.Body)-4]
		for _, size := range []string{"\x00\x00\x01\x91", "\x00\x00\x01\x94", "\x00\x01\x00\x00", "\x01\x00\x00\x00", "\x7f\xff\xff\xff", "\x80\x00\x00\x00", "\xff\xff\xff\xff"} {
			for _, more := range append(probe.Behind(), strings.Repeat("\x00", 600)) {
				wantErr(t, ahead+size+more, api.ErrLimit)
			}
		}
		for _, size := range []int{1, 2, 3, 4, 5, 8, 20, 399, 400} {
			put := string(opaque.Put(probe.Filled(size)))
			for cut := range put {
				wantErr(t, ahead+put[:cut], api.ErrShort)
			}
			for bad := range probe.Spoilt(put, opaque.Pad(size)) {
				wantErr(t, ahead+bad, api.ErrForm)
			}
			wantErr(t, ahead+put, api.ErrForm)
			wantErr(t, ahead+put+"body", api.ErrForm)
			wantErr(t, ahead+string(opaque.Put(make([]byte, size))), api.ErrForm)
		}
	}
}

// fault: bytes in the place of a part, and the error of it.
type fault struct {
	part int
	with string
	want api.Errno
}

// P6.1, R2: where several errors apply, the first from the front: each fault with each one behind it, and with an end there.
func TestGetOrder(t *testing.T) {
	parts := []string{one, nought, two, one, one, one, one, string(opaque.Put([]byte(who))), nought, nought, "body"}
	faults := []fault{
		{1, one, api.ErrForm},
		{2, one, api.ErrForm},
		{6, two, api.ErrForm},
		{7, "\x00\x00\x01\x91", api.ErrLimit},
		{7, one + "a\x01\x00\x00", api.ErrForm},
		{7, one + "a\x00\x00\x00", api.ErrShort},
		{7, "\x00\x00\x00\x08" + one + "\xff\xff\xff\xff", api.ErrLimit},
		{7, string(opaque.Put([]byte(who + nought))), api.ErrForm},
		{8, one, api.ErrForm},
		{9, "\x00\x00\x01\x91", api.ErrLimit},
		{9, one + "a\x01\x00\x00", api.ErrForm},
		{9, one + "a\x00\x00\x00", api.ErrForm},
	}
	wantGet(t, strings.Join(parts, ""), api.Call{XID: 1, Prog: 1, Vers: 1, Proc: 1, Flavor: 1, Stamp: 7, Machine: "ab", Cred: api.Cred{User: 1, Group: 2, Groups: []uint32{3}}, Body: []byte("body")})
	for _, first := range faults {
		with := slices.Clone(parts)
		with[first.part] = first.with
		wantErr(t, strings.Join(with, ""), first.want)
		wantErr(t, strings.Join(with[:first.part+1], ""), first.want)
		for cut := range first.part {
			wantErr(t, strings.Join(with[:cut+1], ""), api.ErrShort)
		}
		for _, later := range faults {
			if later.part > first.part {
				both := slices.Clone(with)
				both[later.part] = later.with
				wantErr(t, strings.Join(both, ""), first.want)
				wantErr(t, strings.Join(both[:later.part+1], ""), first.want)
			}
		}
	}
}

// P6.2: whatever stands behind is more of the Body.
func TestBehind(t *testing.T) {
	for _, f := range all() {
		for _, more := range append(probe.Behind(), f.form, proof, strings.Repeat("\x00", 60000)) {
			c := f.call
			c.Body = []byte(string(f.call.Body) + more)
			wantGet(t, f.form+more, c)
			wantPut(t, c, f.form+more)
		}
	}
}

// follows says what is wrong, if what is got of bytes was not put so, or something stands beside an error. (P6.2, P0.1, R2)
func follows(b []byte) string {
	c, e := Get(b)
	if e != api.OK {
		if !nothing(c) {
			return fmt.Sprintf("Get(%s) = %s beside %d", short(b), tell(c), e)
		}
		return ""
	}
	if again, e := Put(c); !bytes.Equal(again, b) || e != api.OK {
		return fmt.Sprintf("Get(%s) = %s, which is put as %s, %d", short(b), tell(c), short(again), e)
	}
	return ""
}

// P6.2, P0.1: what is got is put as the bytes that it had, at every byte of every place.
func TestGotIsPut(t *testing.T) {
	for _, f := range all() {
		for b := range probe.EveryByte(f.form) {
			if wrong := follows(b); wrong != "" {
				t.Fatal(wrong)
			}
		}
	}
}

// mayBe says what P6.1 has for a call that is put.
func mayBe(c api.Call) api.Errno {
	head := 40
	if c.Flavor == 1 {
		head += 20 + len(c.Machine) + opaque.Pad(len(c.Machine)) + 4*len(c.Cred.Groups)
	}
	who := c.Machine != "" || c.Stamp != 0 || c.Cred.User != 0 || c.Cred.Group != 0 || len(c.Cred.Groups) > 0
	switch {
	case c.Flavor > 1, c.Flavor == 0 && who, len(c.Machine) > 255, len(c.Cred.Groups) > 16:
		return api.ErrArg
	case head+len(c.Body) > 65536:
		return api.ErrLimit
	}
	return api.OK
}

// P6.1, P6.2, R1, R2: any bytes; and what may be put is got.
func FuzzWhatFollows(f *testing.F) {
	for _, k := range all() {
		f.Add([]byte(k.form), uint32(1), uint32(1), "ab", uint32(3))
		f.Add([]byte(k.form), uint32(0), uint32(0), "", uint32(0))
	}
	f.Fuzz(func(t *testing.T, b []byte, n, flavor uint32, machine string, more uint32) {
		if wrong := follows(b); wrong != "" {
			t.Fatal(wrong)
		}
		groups := make([]uint32, more%20)
		for i := range groups {
			groups[i] = n + uint32(i)*more
		}
		c := api.Call{XID: n, Prog: more, Vers: n ^ more, Proc: n + more, Flavor: flavor, Machine: machine, Stamp: more, Cred: api.Cred{User: more, Group: more, Groups: groups}, Body: b}
		put, e := Put(c)
		if e != mayBe(c) || e != api.OK && put != nil {
			t.Fatalf("Put(%s) = %s, %d", tell(c), short(put), e)
		}
		if e != api.OK {
			return
		}
		if d, e := Get(put); !same(d, c) || e != api.OK {
			t.Fatalf("Get(Put(%s)) = %s, %d", tell(c), tell(d), e)
		}
	})
}

// R4: what is handed in is not changed, its spare room neither.
func TestHandedInStays(t *testing.T) {
	for _, f := range all() {
		for size := range len(f.form) + 1 {
			in := []byte(f.form + "behind")
			Get(in[:size])
			if string(in) != f.form+"behind" {
				t.Errorf("Get of the first %d of %s changed them", size, short(f.form))
			}
		}
		c := f.call
		body := []byte(string(c.Body) + "behind")
		groups := append(slices.Clone(c.Cred.Groups), 77, 78, 79)
		c.Body, c.Cred.Groups = body[:len(c.Body)], groups[:len(c.Cred.Groups)]
		wantPut(t, c, f.form)
		if string(body) != string(f.call.Body)+"behind" || !slices.Equal(groups, append(slices.Clone(f.call.Cred.Groups), 77, 78, 79)) {
			t.Errorf("Put(%s) left %q, %v", tell(f.call), body, groups)
		}
	}
}

// R4: what Put answers is new memory, spare room too: it changes with nothing else, and nothing changes with it.
func TestPutSharesNothing(t *testing.T) {
	for _, f := range all() {
		c := f.call
		c.Body, c.Cred.Groups = bytes.Clone(c.Body), slices.Clone(c.Cred.Groups)
		first, _ := Put(c)
		second, _ := Put(c)
		probe.Scribble(first)
		if !same(c, f.call) || string(second) != f.form {
			t.Errorf("%s: %s: changed with an answer", tell(f.call), short(second))
		}
		wantPut(t, c, f.form)
		probe.Scribble(c.Body)
		probe.Scribble(c.Cred.Groups)
		if string(second) != f.form {
			t.Errorf("%s: %s: changed with the lists", tell(f.call), short(second))
		}
	}
}

// R4: what Get answers is new memory likewise, and its two lists share none.
func TestGetSharesNothing(t *testing.T) {
	for _, f := range all() {
		in := []byte(f.form + "behind")
		first, _ := Get(in[:len(f.form)])
		second, _ := Get(in[:len(f.form)])
		probe.Scribble(first.Body)
		probe.Scribble(first.Cred.Groups)
		if string(in) != f.form+"behind" || !same(second, f.call) {
			t.Errorf("%s: %s: changed with an answer", tell(f.call), tell(second))
		}
		wantGet(t, f.form, f.call)
		probe.Scribble(in)
		if !same(second, f.call) {
			t.Errorf("%s: %s: changed with the bytes", tell(f.call), tell(second))
		}
		groups := slices.Clone(second.Cred.Groups)
		probe.Scribble(second.Body)
		if !slices.Equal(groups, second.Cred.Groups) {
			t.Errorf("%s: the Groups changed with the Body", tell(f.call))
		}
	}
}
