package creds

import (
	"bytes"
	"fmt"
	"math"
	"slices"
	"strings"
	"testing"

	"wharfinger/api"
	"wharfinger/opaque"
	"wharfinger/probe"
)

// caller: all that bytes tell of who calls.
type caller struct {
	stamp   uint32
	machine string
	who     api.Cred
}

func (c caller) String() string {
	return fmt.Sprintf("stamp %d, machine of %d bytes %.20q, User %d, Group %d, Groups %v", c.stamp, len(c.machine), c.machine, c.who.User, c.who.Group, c.who.Groups)
}

// same: lists without anything are alike, nil or not. (R4)
func (c caller) same(d caller) bool {
	return c.stamp == d.stamp && c.machine == d.machine && c.who.User == d.who.User && c.who.Group == d.who.Group && slices.Equal(c.who.Groups, d.who.Groups)
}

func (c caller) put() ([]byte, api.Errno) { return Put(c.stamp, c.machine, c.who) }

func got(b []byte) (c caller, e api.Errno) {
	c.stamp, c.machine, c.who, e = Get(b)
	return c, e
}

// told: one who calls, and how that is put.
type told struct {
	caller
	form string
}

// forms: those who call, and how they are put, written out by hand.
var forms = []told{
	{caller{}, "\x00\x00\x00\x00" + "\x00\x00\x00\x00" + "\x00\x00\x00\x00" + "\x00\x00\x00\x00" + "\x00\x00\x00\x00"},
	{caller{7, "ab", api.Cred{User: 1, Group: 2, Groups: []uint32{3}}}, "\x00\x00\x00\x07" + "\x00\x00\x00\x02ab\x00\x00" + "\x00\x00\x00\x01" + "\x00\x00\x00\x02" + "\x00\x00\x00\x01" + "\x00\x00\x00\x03"},
	{caller{1, "a", api.Cred{User: 2, Group: 3, Groups: []uint32{}}}, "\x00\x00\x00\x01" + "\x00\x00\x00\x01a\x00\x00\x00" + "\x00\x00\x00\x02" + "\x00\x00\x00\x03" + "\x00\x00\x00\x00"},
	{caller{256, "abc", api.Cred{User: 0x01020304, Group: 65536}}, "\x00\x00\x01\x00" + "\x00\x00\x00\x03abc\x00" + "\x01\x02\x03\x04" + "\x00\x01\x00\x00" + "\x00\x00\x00\x00"},
	{caller{0, "", api.Cred{Groups: []uint32{9, 8, 9}}}, "\x00\x00\x00\x00" + "\x00\x00\x00\x00" + "\x00\x00\x00\x00" + "\x00\x00\x00\x00" + "\x00\x00\x00\x03" + "\x00\x00\x00\x09" + "\x00\x00\x00\x08" + "\x00\x00\x00\x09"},
	{caller{math.MaxUint32, "\xff\x00/\x80", api.Cred{User: math.MaxUint32, Group: math.MaxUint32, Groups: []uint32{0, math.MaxUint32}}}, "\xff\xff\xff\xff" + "\x00\x00\x00\x04\xff\x00/\x80" + "\xff\xff\xff\xff" + "\xff\xff\xff\xff" + "\x00\x00\x00\x02" + "\x00\x00\x00\x00" + "\xff\xff\xff\xff"},
}

// listed: so many Groups, each another one, and how they are put, without their number.
func listed(many int) ([]uint32, string) {
	var groups []uint32
	var form strings.Builder
	for i := range many {
		groups = append(groups, 0x7f000100+uint32(i))
		form.Write([]byte{0x7f, 0, 1, byte(i)})
	}
	return groups, form.String()
}

// named: a machine's name of so many bytes, below 256, and how it is put.
func named(size int) (machine, form string) {
	machine = string(probe.Filled(size))
	return machine, string([]byte{0, 0, 0, byte(size)}) + machine + strings.Repeat("\x00", opaque.Pad(size))
}

// short: how many bytes there are, and their head, so that what is wrong with many can be read.
func short(b string) string { return fmt.Sprintf("%d bytes, %.50q", len(b), b) }

// wantPut asks Put, and says what is wrong.
func wantPut(t *testing.T, c caller, want string) {
	t.Helper()
	if b, e := c.put(); string(b) != want || e != api.OK {
		t.Errorf("Put(%v) = %s, %d; want %s", c, short(string(b)), e, short(want))
	}
}

// wantGet asks Get, and says what is wrong.
func wantGet(t *testing.T, b string, want caller) {
	t.Helper()
	if c, e := got([]byte(b)); !c.same(want) || e != api.OK {
		t.Errorf("Get(%s) = %v, %d; want %v", short(b), c, e, want)
	}
}

// wantErr asks Get of bytes that may not be: the error, and nothing beside it. (R2)
func wantErr(t *testing.T, b string, want api.Errno) {
	t.Helper()
	if c, e := got([]byte(b)); !c.same(caller{}) || c.who.Groups != nil || e != want {
		t.Errorf("Get(%s) = %v, %d; want nothing, %d", short(b), c, e, want)
	}
}

// P5.1: Put and Get of what is written out by hand.
func TestForms(t *testing.T) {
	for _, f := range forms {
		wantPut(t, f.caller, f.form)
		wantGet(t, f.form, f.caller)
	}
}

// P5.1: machines and Groups of every number that may be.
func TestSizes(t *testing.T) {
	for size := range 256 {
		for _, many := range []int{0, 1, 2, 15, 16} {
			machine, text := named(size)
			groups, list := listed(many)
			c := caller{5, machine, api.Cred{User: 6, Group: 7, Groups: groups}}
			form := "\x00\x00\x00\x05" + text + "\x00\x00\x00\x06\x00\x00\x00\x07\x00\x00\x00" + string([]byte{byte(many)}) + list
			wantPut(t, c, form)
			wantGet(t, form, c)
		}
	}
}

// P5.1, R4: no Groups, nil and empty, are put alike.
func TestNoGroups(t *testing.T) {
	const form = "\x00\x00\x00\x05\x00\x00\x00\x01m\x00\x00\x00\x00\x00\x00\x06\x00\x00\x00\x07\x00\x00\x00\x00"
	for _, none := range [][]uint32{nil, {}, make([]uint32, 0, 20), make([]uint32, 17)[:0]} {
		wantPut(t, caller{5, "m", api.Cred{User: 6, Group: 7, Groups: none}}, form)
	}
}

// P5.1: a machine of more than MaxMachine bytes, more than MaxGroups Groups, and both.
func TestPutArg(t *testing.T) {
	for _, size := range []int{0, 1, 254, 255, 256, 257, 511, 512, 65536, 65537} {
		for _, many := range []int{0, 1, 15, 16, 17, 18, 256, 257, 65536, 65537} {
			b, e := Put(1, strings.Repeat("m", size), api.Cred{User: 2, Group: 3, Groups: make([]uint32, many)})
			if size <= 255 && many <= 16 {
				if e != api.OK || len(b) != 20+size+opaque.Pad(size)+4*many {
					t.Errorf("Put(machine of %d bytes, %d Groups) = %s, %d", size, many, short(string(b)), e)
				}
			} else if b != nil || e != api.ErrArg {
				t.Errorf("Put(machine of %d bytes, %d Groups) = %s, %d; want ErrArg", size, many, short(string(b)), e)
			}
		}
	}
}

// all: the forms, and with them whoever has the longest machine and the most Groups.
func all() []told {
	machine, text := named(api.MaxMachine)
	groups, list := listed(api.MaxGroups)
	great := caller{1, machine, api.Cred{User: 2, Group: 3, Groups: groups}}
	return append(slices.Clone(forms), told{great, "\x00\x00\x00\x01" + text + "\x00\x00\x00\x02\x00\x00\x00\x03\x00\x00\x00\x10" + list})
}

// P5.1: bytes cut off at every place; their spare room does not count.
func TestGetShort(t *testing.T) {
	for _, f := range all() {
		whole := []byte(f.form)
		for size := range whole {
			if c, e := got(whole[:size]); !c.same(caller{}) || e != api.ErrShort {
				t.Errorf("Get(%s, the first %d) = %v, %d; want ErrShort", short(f.form), size, c, e)
			}
		}
	}
	if c, e := got(nil); !c.same(caller{}) || e != api.ErrShort {
		t.Errorf("Get(nil) = %v, %d; want ErrShort", c, e)
	}
}

// P5.1: bytes behind the last Group, one and more of them.
func TestGetBehind(t *testing.T) {
	for _, f := range all() {
		for _, more := range append(probe.Behind(), "\x00\x00", "\x00\x00\x00", f.form, strings.Repeat("\x00", 65536)) {
			if more != "" {
				wantErr(t, f.form+more, api.ErrForm)
			}
		}
	}
}

// P5.1: a byte of the machine's padding that is not 0.
func TestGetPadding(t *testing.T) {
	for _, size := range []int{1, 2, 3, 5, 253, 254, 255} {
		_, text := named(size)
		for bad := range probe.Spoilt(text, opaque.Pad(size)) {
			wantErr(t, "\x00\x00\x00\x01"+bad+"\x00\x00\x00\x02\x00\x00\x00\x03\x00\x00\x00\x00", api.ErrForm)
			wantErr(t, "\x00\x00\x00\x01"+bad, api.ErrForm)
		}
	}
}

// P5.1: a machine's length above MaxMachine, with its bytes there and without.
func TestGetMachineLimit(t *testing.T) {
	for _, size := range []string{"\x00\x00\x01\x00", "\x00\x00\x01\x01", "\x00\x00\x01\x04", "\x00\x01\x00\x00", "\x00\x01\x00\x01", "\x01\x00\x00\x00", "\x7f\xff\xff\xff", "\x80\x00\x00\x00", "\xff\xff\xff\xff"} {
		for _, more := range append(probe.Behind(), strings.Repeat("\x00", 276), strings.Repeat("m", 256)+strings.Repeat("\x00", 12), strings.Repeat("\x00", 70000)) {
			wantErr(t, "\x00\x00\x00\x01"+size+more, api.ErrLimit)
		}
	}
}

// P5.1: more than MaxGroups Groups told, with their bytes there and without.
func TestGetGroupsLimit(t *testing.T) {
	for _, f := range forms {
		_, text := named(len(f.machine))
		ahead := "\x00\x00\x00\x01" + text + "\x00\x00\x00\x02\x00\x00\x00\x03"
		for _, many := range []string{"\x00\x00\x00\x11", "\x00\x00\x00\x12", "\x00\x00\x00\x20", "\x00\x00\x01\x00", "\x00\x00\x01\x01", "\x00\x01\x00\x01", "\x01\x00\x00\x01", "\x7f\xff\xff\xff", "\x80\x00\x00\x00", "\xff\xff\xff\xff"} {
			for _, more := range append(probe.Behind(), strings.Repeat("\x00", 64), strings.Repeat("\x00", 67), strings.Repeat("\x00", 68), strings.Repeat("\x00", 69), strings.Repeat("\x00", 72), strings.Repeat("\x00", 1024)) {
				wantErr(t, ahead+many+more, api.ErrLimit)
			}
		}
	}
}

// P5.1, R2: where several errors apply, the first from the front.
func TestGetOrder(t *testing.T) {
	const (
		word     = "\x00\x00\x00\x01"
		spoilt   = "\x00\x00\x00\x01m\x00\x00\x01"
		longName = "\x00\x00\x01\x00"
		tooMany  = "\x00\x00\x00\x11"
	)
	wantErr(t, "\x00\x00\x01", api.ErrShort)
	wantErr(t, word+"\xff\xff\xff", api.ErrShort)
	wantErr(t, word+spoilt[:7], api.ErrShort)
	wantErr(t, word+"\x00\x00\x00\x01m\x01", api.ErrShort)
	wantErr(t, word+"\x00\x00\x00\x01m\x01\x01", api.ErrShort)
	wantErr(t, word+spoilt, api.ErrForm)
	wantErr(t, word+spoilt+word+word+tooMany, api.ErrForm)
	wantErr(t, word+spoilt+word+word+"\x00\x00\x00\x02"+word, api.ErrForm)
	wantErr(t, word+longName, api.ErrLimit)
	wantErr(t, word+longName+"m\x01", api.ErrLimit)
	wantErr(t, word+longName+strings.Repeat("m", 256)+word+word+tooMany, api.ErrLimit)
	wantErr(t, word+"\x00\x00\x00\x00"+word+word[:3], api.ErrShort)
	wantErr(t, word+"\x00\x00\x00\x00"+word+word+tooMany[:3], api.ErrShort)
	wantErr(t, word+"\x00\x00\x00\x00"+word+word+tooMany, api.ErrLimit)
	wantErr(t, word+"\x00\x00\x00\x00"+word+word+tooMany+strings.Repeat(word, 17)+"behind", api.ErrLimit)
	wantErr(t, word+"\x00\x00\x00\x00"+word+word+"\x00\x00\x00\x02"+word+"\x00\x00\x01", api.ErrShort)
	wantErr(t, word+"\x00\x00\x00\x00"+word+word+"\x00\x00\x00\x02"+word+word+"\x00", api.ErrForm)
}

// P5.1: what is told is read each at its place: every number with every bit alone.
func TestBits(t *testing.T) {
	for bit := range 32 {
		n := uint32(1) << bit
		for _, c := range []caller{
			{n, "", api.Cred{}},
			{0, "", api.Cred{User: n}},
			{0, "", api.Cred{Group: n}},
			{0, "", api.Cred{Groups: []uint32{n}}},
			{0, "", api.Cred{Groups: []uint32{0, n, 0}}},
			{n, "m", api.Cred{User: ^n, Group: n, Groups: []uint32{^n, n}}},
		} {
			b, e := c.put()
			if e != api.OK {
				t.Errorf("Put(%v): %d", c, e)
			}
			wantGet(t, string(b), c)
		}
	}
}

// P5.2: the Group, each of the Groups, and no other; the User's number counts for nothing.
func TestIn(t *testing.T) {
	groups, _ := listed(16)
	for _, c := range []struct {
		who api.Cred
		in  []uint32
		out []uint32
	}{
		{api.Cred{User: 1, Group: 2, Groups: []uint32{3}}, []uint32{2, 3}, []uint32{0, 1, 4, math.MaxUint32}},
		{api.Cred{User: 1, Group: 2}, []uint32{2}, []uint32{0, 1, 3}},
		{api.Cred{User: 1, Group: 2, Groups: []uint32{}}, []uint32{2}, []uint32{0, 1, 3}},
		{api.Cred{}, []uint32{0}, []uint32{1, math.MaxUint32}},
		{api.Cred{User: 9, Group: math.MaxUint32, Groups: []uint32{0}}, []uint32{0, math.MaxUint32}, []uint32{1, 9, math.MaxUint32 - 1}},
		{api.Cred{User: 9, Group: 5, Groups: []uint32{4, 5, 4}}, []uint32{4, 5}, []uint32{0, 3, 6, 9}},
		{api.Cred{User: 9, Group: 5, Groups: []uint32{30, 20, 40, 10}}, []uint32{5, 10, 20, 30, 40}, []uint32{0, 9, 15, 25, 35, 50}},
		{api.Cred{User: 9, Group: 5, Groups: groups}, append([]uint32{5}, groups...), []uint32{0, 9, groups[0] - 1, groups[15] + 1}},
		{api.Cred{Group: 5, Groups: make([]uint32, 17)}, []uint32{0, 5}, []uint32{1}},
		{api.Cred{Group: 5, Groups: append(make([]uint32, 40), 7)}, []uint32{0, 5, 7}, []uint32{1}},
		{api.Cred{Group: 5, Groups: []uint32{6, 7}[:1]}, []uint32{5, 6}, []uint32{7}},
	} {
		for _, group := range c.in {
			if !In(c.who, group) {
				t.Errorf("In(%v, %d) is false", c.who, group)
			}
		}
		for _, group := range c.out {
			if In(c.who, group) {
				t.Errorf("In(%v, %d) is true", c.who, group)
			}
		}
	}
}

// P5.2: who nobody is; nobody is in nobody's group alone, and may be put.
func TestNobody(t *testing.T) {
	c := Nobody()
	if c.User != 65534 || c.Group != 65534 || len(c.Groups) != 0 {
		t.Errorf("%v", c)
	}
	if !In(c, 65534) || In(c, 0) || In(c, 65535) {
		t.Errorf("nobody's groups")
	}
	wantPut(t, caller{0, "", c}, "\x00\x00\x00\x00\x00\x00\x00\x00\x00\x00\xff\xfe\x00\x00\xff\xfe\x00\x00\x00\x00")
	c.User, c.Group, c.Groups = 1, 2, append(c.Groups, 3)
	if d := Nobody(); d.User != 65534 || d.Group != 65534 || len(d.Groups) != 0 {
		t.Errorf("nobody became %v", d)
	}
}

// P5.3: whoever is in a group is in it by one Group more, whichever that is, and wherever it stands; and is in that one.
func TestOneGroupMore(t *testing.T) {
	numbers := []uint32{0, 1, 2, 3, 9, math.MaxUint32}
	for _, who := range []api.Cred{{}, {User: 3, Group: 1}, {Group: 2, Groups: []uint32{1, 9}}, {Group: 9, Groups: []uint32{0, 0, 3}}, Nobody()} {
		for _, more := range numbers {
			for place := range len(who.Groups) + 1 {
				with := who
				with.Groups = slices.Insert(slices.Clone(who.Groups), place, more)
				for _, group := range numbers {
					if In(with, group) != (In(who, group) || group == more) {
						t.Errorf("In(%v, %d) = %v, In(%v, %d) = %v", with, group, In(with, group), who, group, In(who, group))
					}
				}
			}
		}
	}
}

// follows says what is wrong, if what is got of bytes was not put so, or something stands beside an error. (P5.3, P0.1, R2)
func follows(b []byte) string {
	c, e := got(b)
	if e != api.OK {
		if !c.same(caller{}) {
			return fmt.Sprintf("Get(%v) = %v beside %d", b, c, e)
		}
		return ""
	}
	if again, e := c.put(); !bytes.Equal(again, b) || e != api.OK {
		return fmt.Sprintf("Get(%v) = %v, which is put as %v, %d", b, c, again, e)
	}
	return ""
}

// P5.3, P0.1: what is got is put as the bytes that it had, at every byte of every place.
func TestGotIsPut(t *testing.T) {
	for _, f := range all() {
		for b := range probe.EveryByte(f.form) {
			if wrong := follows(b); wrong != "" {
				t.Fatal(wrong)
			}
		}
	}
}

// P5.3, R1, R2: any bytes; and whoever is put is got.
func FuzzWhatFollows(f *testing.F) {
	for _, c := range all() {
		f.Add([]byte(c.form), uint32(7), "ab", uint32(3))
	}
	f.Fuzz(func(t *testing.T, b []byte, n uint32, machine string, more uint32) {
		if wrong := follows(b); wrong != "" {
			t.Fatal(wrong)
		}
		groups := make([]uint32, len(b)%20)
		for i := range groups {
			groups[i] = n + uint32(i)*more
		}
		c := caller{n, machine, api.Cred{User: more, Group: n ^ more, Groups: groups}}
		put, e := c.put()
		if may := len(machine) <= 255 && len(groups) <= 16; may != (e == api.OK) || !may && (put != nil || e != api.ErrArg) {
			t.Fatalf("Put(%v) = %v, %d", c, put, e)
		}
		if e != api.OK {
			return
		}
		if d, e := got(put); !d.same(c) || e != api.OK {
			t.Fatalf("Get(Put(%v)) = %v, %d", c, d, e)
		}
	})
}

// R4: what is handed in is not changed, its spare room neither.
func TestHandedInStays(t *testing.T) {
	for _, f := range all() {
		for size := range len(f.form) + 1 {
			in := []byte(f.form + "behind")
			Get(in[:size])
			if string(in) != f.form+"behind" {
				t.Errorf("Get of the first %d of %s changed them", size, short(f.form))
			}
		}
	}
	for many := range 18 {
		in, _ := listed(20)
		was := slices.Clone(in)
		who := api.Cred{User: 1, Group: 2, Groups: in[:many]}
		Put(3, "m", who)
		In(who, 4)
		In(who, in[0])
		if !slices.Equal(in, was) {
			t.Errorf("%d Groups: %v, was %v", many, in, was)
		}
	}
}

// R4: what Put answers is new memory, spare room too: it changes with nothing else, and nothing changes with it.
func TestPutSharesNothing(t *testing.T) {
	for _, f := range all() {
		c := f.caller
		c.who.Groups = slices.Clone(f.who.Groups)
		one, _ := c.put()
		two, _ := c.put()
		probe.Scribble(one)
		if !c.same(f.caller) || string(two) != f.form {
			t.Errorf("%v: %s: changed with an answer", f.caller, short(string(two)))
		}
		wantPut(t, c, f.form)
		probe.Scribble(c.who.Groups)
		if string(two) != f.form {
			t.Errorf("%v: %s: changed with the Groups", f.caller, short(string(two)))
		}
	}
}

// R4: what Get answers is new memory likewise.
func TestGetSharesNothing(t *testing.T) {
	for _, f := range all() {
		in := []byte(f.form)
		one, _ := got(in)
		two, _ := got(in)
		probe.Scribble(one.who.Groups)
		if string(in) != f.form || !two.same(f.caller) {
			t.Errorf("%v: %v: changed with an answer", f.caller, two)
		}
		wantGet(t, f.form, f.caller)
		probe.Scribble(in)
		if !two.same(f.caller) {
			t.Errorf("%v: %v: changed with the bytes", f.caller, two)
		}
	}
}

// Behind the first error no step is taken any more, and it is the one that is kept.
func TestInTurn(t *testing.T) {
	asked := ""
	say := func(size int, e api.Errno) step {
		return func(rest []byte) (int, api.Errno) { asked += string(rest) + ";"; return size, e }
	}
	read := inTurn([]byte("abcd"))
	for _, c := range []struct {
		take step
		want api.Errno
	}{
		{say(1, api.OK), api.OK},
		{say(0, api.OK), api.OK},
		{say(2, api.OK), api.OK},
		{say(9, api.ErrShort), api.ErrShort},
		{say(1, api.OK), api.ErrShort},
		{say(1, api.ErrForm), api.ErrShort},
	} {
		if e := read(c.take); e != c.want {
			t.Errorf("behind %q: %d, want %d", asked, e, c.want)
		}
	}
	if asked != "abcd;bcd;bcd;d;" {
		t.Errorf("%q", asked)
	}
}
