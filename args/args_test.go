package args

import (
	"bytes"
	"encoding/binary"
	"encoding/hex"
	"fmt"
	"math"
	"math/rand"
	"reflect"
	"slices"
	"strings"
	"testing"

	"wharfinger/api"
	"wharfinger/attrs"
	"wharfinger/probe"
)

// most and mostLong are the greatest numbers of each kind.
const (
	most     = math.MaxUint32
	mostLong = math.MaxUint64
)

// lastProc is the last procedure.
const lastProc = 21

// at: a point of time.
func at(sec, nano uint32) api.Time { return api.Time{Sec: sec, Nano: nano} }

// bytesOf reads bytes as a document writes them, two digits each, with spaces for the eye.
func bytesOf(text string) string {
	b, err := hex.DecodeString(strings.ReplaceAll(text, " ", ""))
	if err != nil {
		panic(err)
	}
	return string(b)
}

// noughts: so many bytes 0.
func noughts(n int) string { return string(make([]byte, n)) }

// filled: a text of so many bytes, none of them 0.
func filled(n int) string { return string(probe.Filled(n)) }

// numForm, longForm and listForm: numbers and bytes of any length as bytes, made otherwise than in the program.
func numForm(n uint32) string { return string(binary.BigEndian.AppendUint32(nil, n)) }

func longForm(n uint64) string { return string(binary.BigEndian.AppendUint64(nil, n)) }

func listForm(s string) string { return numForm(uint32(len(s))) + s + noughts((4-len(s)%4)%4) }

// known: what is asked, and how it is put.
type known struct {
	args api.Args
	form string
}

// What is to be set, in the forms: nothing, a Mode, and all that there is.
var (
	setMode = api.Set{HasMode: true, Mode: 7}
	setAll  = api.Set{HasMode: true, Mode: 0x102, HasUser: true, User: 3, HasGroup: true, Group: 4, HasSize: true, Size: 5, ReadHow: api.HowTo, Read: at(6, 7), WriteHow: api.HowTo, Write: at(8, 9)}
)

const (
	setNoneHex = " 00000000 00000000 00000000 00000000 00000000 00000000 "
	setModeHex = " 00000001 00000007 00000000 00000000 00000000 00000000 00000000 "
	setAllHex  = " 00000001 00000102 00000001 00000003 00000001 00000004 00000001 0000000000000005 00000002 00000006 00000007 00000002 00000008 00000009 "
	hHex       = " 00000005 0102030405 000000 "
	nameHex    = " 00000002 6162 0000 "
)

var (
	h     = []byte{1, 2, 3, 4, 5}
	h2    = []byte{6, 7, 8}
	check = [8]byte{1, 2, 3, 4, 5, 6, 7, 8}
)

// fullForms: each procedure with all of its parts, each way it can have them, written out.
func fullForms() []known {
	return []known{
		{api.Args{}, ""},
		{api.Args{Proc: 1, H: h}, bytesOf(hHex)},
		{api.Args{Proc: 2, H: h, Set: setAll, HasGuard: true, Guard: at(0x01020304, 0x05060708)}, bytesOf(hHex + setAllHex + "00000001 01020304 05060708")},
		{api.Args{Proc: 2, H: h, Set: setMode}, bytesOf(hHex + setModeHex + "00000000")},
		{api.Args{Proc: 3, H: h, Name: "ab"}, bytesOf(hHex + nameHex)},
		{api.Args{Proc: 4, H: h, Bits: 0x01020304}, bytesOf(hHex + "01020304")},
		{api.Args{Proc: 5, H: h}, bytesOf(hHex)},
		{api.Args{Proc: 6, H: h, Offset: 0x0102030405060708, Count: 0x090a0b0c}, bytesOf(hHex + "0102030405060708 090a0b0c")},
		{api.Args{Proc: 7, H: h, Offset: 0x0102030405060708, Count: 0x090a0b0c, Stable: 1, Data: []byte("cde")}, bytesOf(hHex + "0102030405060708 090a0b0c 00000001 00000003 636465 00")},
		{api.Args{Proc: 8, H: h, Name: "ab", Set: setAll}, bytesOf(hHex + nameHex + "00000000" + setAllHex)},
		{api.Args{Proc: 8, H: h, Name: "ab", How: 1, Set: setMode}, bytesOf(hHex + nameHex + "00000001" + setModeHex)},
		{api.Args{Proc: 8, H: h, Name: "ab", How: 2, Verf: check}, bytesOf(hHex + nameHex + "00000002 0102030405060708")},
		{api.Args{Proc: 9, H: h, Name: "ab", Set: setAll}, bytesOf(hHex + nameHex + setAllHex)},
		{api.Args{Proc: 10, H: h, Name: "ab", Set: setMode, Target: "/c"}, bytesOf(hHex + nameHex + setModeHex + "00000002 2f63 0000")},
		{api.Args{Proc: 11, H: h, Name: "ab", Kind: 3, Set: setAll, Offset: 0x0102030405060708}, bytesOf(hHex + nameHex + "00000003" + setAllHex + "0102030405060708")},
		{api.Args{Proc: 11, H: h, Name: "ab", Kind: 4, Set: setMode, Offset: 9}, bytesOf(hHex + nameHex + "00000004" + setModeHex + "0000000000000009")},
		{api.Args{Proc: 11, H: h, Name: "ab", Kind: 6, Set: setAll}, bytesOf(hHex + nameHex + "00000006" + setAllHex)},
		{api.Args{Proc: 11, H: h, Name: "ab", Kind: 7, Set: setMode}, bytesOf(hHex + nameHex + "00000007" + setModeHex)},
		{api.Args{Proc: 11, H: h, Name: "ab", Kind: 5}, bytesOf(hHex + nameHex + "00000005")},
		{api.Args{Proc: 12, H: h, Name: "ab"}, bytesOf(hHex + nameHex)},
		{api.Args{Proc: 13, H: h, Name: "ab"}, bytesOf(hHex + nameHex)},
		{api.Args{Proc: 14, H: h, Name: "ab", H2: h2, Name2: "c"}, bytesOf(hHex + nameHex + "00000003 060708 00 00000001 63 000000")},
		{api.Args{Proc: 15, H: h, H2: h2, Name2: "c"}, bytesOf(hHex + "00000003 060708 00 00000001 63 000000")},
		{api.Args{Proc: 16, H: h, Cookie: 0x1112131415161718, Verf: check, Count: 0x090a0b0c}, bytesOf(hHex + "1112131415161718 0102030405060708 090a0b0c")},
		{api.Args{Proc: 17, H: h, Cookie: 0x1112131415161718, Verf: check, Count: 0x090a0b0c, Max: 0x0d0e0f10}, bytesOf(hHex + "1112131415161718 0102030405060708 090a0b0c 0d0e0f10")},
		{api.Args{Proc: 18, H: h}, bytesOf(hHex)},
		{api.Args{Proc: 19, H: h}, bytesOf(hHex)},
		{api.Args{Proc: 20, H: h}, bytesOf(hHex)},
		{api.Args{Proc: 21, H: h, Offset: 0x0102030405060708, Count: 0x090a0b0c}, bytesOf(hHex + "0102030405060708 090a0b0c")},
	}
}

// bareForms: each procedure with nothing in its parts, each way it can have them, written out.
func bareForms() []known {
	return []known{
		{api.Args{Proc: api.PrNull}, ""},
		{api.Args{Proc: api.PrGetattr}, noughts(4)},
		{api.Args{Proc: api.PrSetattr}, noughts(32)},
		{api.Args{Proc: api.PrSetattr, HasGuard: true}, noughts(28) + numForm(1) + noughts(8)},
		{api.Args{Proc: api.PrLookup}, noughts(8)},
		{api.Args{Proc: api.PrAccess}, noughts(8)},
		{api.Args{Proc: api.PrReadlink}, noughts(4)},
		{api.Args{Proc: api.PrRead}, noughts(16)},
		{api.Args{Proc: api.PrWrite}, noughts(24)},
		{api.Args{Proc: api.PrCreate}, noughts(36)},
		{api.Args{Proc: api.PrCreate, How: 1}, noughts(8) + numForm(1) + noughts(24)},
		{api.Args{Proc: api.PrCreate, How: 2}, noughts(8) + numForm(2) + noughts(8)},
		{api.Args{Proc: api.PrMkdir}, noughts(32)},
		{api.Args{Proc: api.PrSymlink}, noughts(36)},
		{api.Args{Proc: api.PrMknod}, noughts(12)},
		{api.Args{Proc: api.PrMknod, Kind: 1}, noughts(8) + numForm(1)},
		{api.Args{Proc: api.PrMknod, Kind: 2}, noughts(8) + numForm(2)},
		{api.Args{Proc: api.PrMknod, Kind: 3}, noughts(8) + numForm(3) + noughts(32)},
		{api.Args{Proc: api.PrMknod, Kind: 4}, noughts(8) + numForm(4) + noughts(32)},
		{api.Args{Proc: api.PrMknod, Kind: 5}, noughts(8) + numForm(5)},
		{api.Args{Proc: api.PrMknod, Kind: 6}, noughts(8) + numForm(6) + noughts(24)},
		{api.Args{Proc: api.PrMknod, Kind: 7}, noughts(8) + numForm(7) + noughts(24)},
		{api.Args{Proc: api.PrMknod, Kind: 8}, noughts(8) + numForm(8)},
		{api.Args{Proc: api.PrMknod, Kind: 9}, noughts(8) + numForm(9)},
		{api.Args{Proc: api.PrMknod, Kind: most}, noughts(8) + numForm(most)},
		{api.Args{Proc: api.PrRemove}, noughts(8)},
		{api.Args{Proc: api.PrRmdir}, noughts(8)},
		{api.Args{Proc: api.PrRename}, noughts(16)},
		{api.Args{Proc: api.PrLink}, noughts(12)},
		{api.Args{Proc: api.PrReaddir}, noughts(24)},
		{api.Args{Proc: api.PrReaddirplus}, noughts(28)},
		{api.Args{Proc: api.PrFsstat}, noughts(4)},
		{api.Args{Proc: api.PrFsinfo}, noughts(4)},
		{api.Args{Proc: api.PrPathconf}, noughts(4)},
		{api.Args{Proc: api.PrCommit}, noughts(16)},
	}
}

// forms: all that is written out by hand.
func forms() []known { return append(fullForms(), bareForms()...) }

// table: the chapter's, a procedure's parts by its number; which of them hang on others, has says.
func table(p api.Proc) []string {
	return strings.Fields([...]string{
		"", "H", "H Set HasGuard Guard", "H Name", "H Bits", "H", "H Offset Count", "H Offset Count Stable Data",
		"H Name How Verf Set", "H Name Set", "H Name Set Target", "H Name Kind Set Offset", "H Name", "H Name",
		"H Name H2 Name2", "H H2 Name2", "H Cookie Verf Count", "H Cookie Verf Count Max", "H", "H", "H", "H Offset Count",
	}[p])
}

// has says whether something is one of the parts that are asked.
func has(a api.Args, name string) bool {
	switch {
	case a.Proc > lastProc || !slices.Contains(table(a.Proc), name):
		return false
	case name == "Guard":
		return a.HasGuard
	case a.Proc == 8 && name == "Verf":
		return a.How == 2
	case a.Proc == 8 && name == "Set":
		return a.How != 2
	case a.Proc == 11 && name == "Set":
		return slices.Contains([]uint32{3, 4, 6, 7}, a.Kind)
	case a.Proc == 11 && name == "Offset":
		return slices.Contains([]uint32{3, 4}, a.Kind)
	}
	return true
}

// fields: the names of all that may be asked: whatever api.Args has, but for the procedure.
func fields() []string {
	var names []string
	for f := range reflect.TypeFor[api.Args]().Fields() {
		if f.Name != "Proc" {
			names = append(names, f.Name)
		}
	}
	return names
}

// place: what is asked by that name.
func place(a *api.Args, name string) reflect.Value {
	return reflect.ValueOf(a).Elem().FieldByName(name)
}

// with: the same, but for one thing that is asked.
func with(a api.Args, name string, x any) api.Args {
	place(&a, name).Set(reflect.ValueOf(x))
	return a
}

// mayPart says whether something may be, as one of the parts.
func mayPart(a api.Args, name string) bool {
	switch name {
	case "H", "H2":
		return place(&a, name).Len() <= 64
	case "Name", "Name2", "Target":
		return place(&a, name).Len() <= 1024
	case "Data":
		return len(a.Data) <= 32768
	case "Stable", "How":
		return place(&a, name).Uint() <= 2
	case "Guard":
		return a.Guard.Nano <= 999999999
	case "Set":
		_, e := attrs.PutSet(a.Set)
		return e == api.OK
	}
	return true
}

// mayAsk: what P11.1 has for what is put. Lists without anything are zero, nil or not. (R4)
func mayAsk(a api.Args) bool {
	for _, name := range fields() {
		x := place(&a, name)
		zero := x.IsZero() || x.Kind() == reflect.Slice && x.Len() == 0
		if has(a, name) && !mayPart(a, name) || !has(a, name) && !zero {
			return false
		}
	}
	return a.Proc <= lastProc
}

// partForm: one of the parts, as bytes.
func partForm(a api.Args, name string) string {
	switch x := place(&a, name).Interface().(type) {
	case []byte:
		return listForm(string(x))
	case string:
		return listForm(x)
	case uint32:
		return numForm(x)
	case uint64:
		return longForm(x)
	case bool:
		return numForm(map[bool]uint32{true: 1}[x])
	case api.Time:
		return numForm(x.Sec) + numForm(x.Nano)
	case [8]byte:
		return string(x[:])
	}
	b, _ := attrs.PutSet(a.Set)
	return string(b)
}

// told: what is asked, as bytes.
func told(a api.Args) string {
	var b strings.Builder
	for _, name := range table(a.Proc) {
		if has(a, name) {
			b.WriteString(partForm(a, name))
		}
	}
	return b.String()
}

// walk reads bytes as the chapter has them; behind the first error it reads no more, and answers noughts.
type walk struct {
	rest []byte
	e    api.Errno
}

func (w *walk) take(n int) []byte {
	if w.e == api.OK && len(w.rest) < n {
		w.e = api.ErrShort
	}
	if w.e != api.OK {
		return make([]byte, n)
	}
	b := w.rest[:n]
	w.rest = w.rest[n:]
	return b
}

func (w *walk) ask(ok bool, e api.Errno) {
	if w.e == api.OK && !ok {
		w.e = e
	}
}

func (w *walk) number(atMost uint32) uint32 {
	n := binary.BigEndian.Uint32(w.take(4))
	w.ask(n <= atMost, api.ErrForm)
	return n
}

func (w *walk) list(atMost uint32) string {
	n := w.number(most)
	if w.ask(n <= atMost, api.ErrLimit); w.e != api.OK {
		return ""
	}
	b := w.take(int(n+3) / 4 * 4)
	w.ask(!bytes.ContainsFunc(b[n:], func(r rune) bool { return r != 0 }), api.ErrForm)
	return string(b[:n])
}

func (w *walk) set() api.Set {
	if w.e != api.OK {
		return api.Set{}
	}
	s, n, e := attrs.GetSet(w.rest)
	w.rest, w.e = w.rest[n:], e
	return s
}

func (w *walk) time() api.Time {
	b := w.take(8)
	t := at(binary.BigEndian.Uint32(b), binary.BigEndian.Uint32(b[4:]))
	w.ask(t.Nano <= 999999999, api.ErrForm)
	return t
}

func (w *walk) part(name string) any {
	switch name {
	case "H", "H2":
		return []byte(w.list(64))
	case "Name", "Name2", "Target":
		return w.list(1024)
	case "Data":
		return []byte(w.list(32768))
	case "Stable", "How":
		return w.number(2)
	case "HasGuard":
		return w.number(1) == 1
	case "Guard":
		return w.time()
	case "Set":
		return w.set()
	case "Offset", "Cookie":
		return binary.BigEndian.Uint64(w.take(8))
	case "Verf":
		return [8]byte(w.take(8))
	}
	return w.number(most)
}

// model says what P11.1 has for bytes that are got.
func model(p api.Proc, b []byte) (api.Args, api.Errno) {
	if p > lastProc {
		return api.Args{}, api.ErrArg
	}
	w, a := walk{rest: b}, api.Args{Proc: p}
	for _, name := range table(p) {
		if w.e == api.OK && has(a, name) {
			a = with(a, name, w.part(name))
		}
	}
	if w.ask(len(w.rest) == 0, api.ErrForm); w.e != api.OK {
		return api.Args{}, w.e
	}
	return a, api.OK
}

// alike: lists without anything are alike, nil or not. (R4)
func alike(a, b api.Args) bool {
	for _, x := range []*api.Args{&a, &b} {
		for _, list := range []*[]byte{&x.H, &x.H2, &x.Data} {
			if len(*list) == 0 {
				*list = nil
			}
		}
	}
	return reflect.DeepEqual(a, b)
}

// nothing: not even an empty list stands beside an error. (R2)
func nothing(a api.Args) bool { return reflect.DeepEqual(a, api.Args{}) }

// short: how many bytes there are, and their head, so that what is wrong with many can be read.
func short[B string | []byte](b B) string { return fmt.Sprintf("%d bytes, %.100x", len(b), b) }

// brief: what is asked, with no more of it than can be read.
func brief(a api.Args) string {
	text := fmt.Sprintf("%+v", a)
	return text[:min(len(text), 600)]
}

func wantPut(t *testing.T, a api.Args, want string) {
	t.Helper()
	if b, e := Put(a); string(b) != want || e != api.OK {
		t.Errorf("Put(%s) = %s, %d; want %s", brief(a), short(b), e, short(want))
	}
}

// wantNoPut asks for what may not be put: the error, and nothing beside it. (R2)
func wantNoPut(t *testing.T, a api.Args) {
	t.Helper()
	if b, e := Put(a); b != nil || e != api.ErrArg {
		t.Errorf("Put(%s) = %s, %d; want nothing, ErrArg", brief(a), short(b), e)
	}
}

func wantGet(t *testing.T, b string, want api.Args) {
	t.Helper()
	if a, e := Get(want.Proc, []byte(b)); !alike(a, want) || e != api.OK {
		t.Errorf("Get(%d, %s) = %s, %d; want %s", want.Proc, short(b), brief(a), e, brief(want))
	}
}

// wantNoGet asks Get of bytes of none: the error, and nothing beside it. (R2)
func wantNoGet(t *testing.T, p api.Proc, b string, want api.Errno) {
	t.Helper()
	if a, e := Get(p, []byte(b)); !nothing(a) || e != want {
		t.Errorf("Get(%d, %s) = %s, %d; want nothing, %d", p, short(b), brief(a), e, want)
	}
}

// gets says what is wrong, if bytes are not got as they may be, or not put so again. (P11.1, P11.2, P0.1, R2)
func gets(p api.Proc, b []byte) string {
	want, wrong := model(p, b)
	a, e := Get(p, b)
	if !alike(a, want) || e != wrong || e != api.OK && (a.H != nil || a.H2 != nil || a.Data != nil) {
		return fmt.Sprintf("Get(%d, %s) = %s, %d; want %s, %d", p, short(b), brief(a), e, brief(want), wrong)
	}
	if e != api.OK {
		return ""
	}
	if again, e := Put(a); !bytes.Equal(again, b) || e != api.OK {
		return fmt.Sprintf("Get(%d, %s) = %s, which is put as %s, %d", p, short(b), brief(a), short(again), e)
	}
	return ""
}

// puts says what is wrong, if something is not put, though it may be, or put, though it may not, or not got again. (P11.1, P11.2, P0.1, R2)
func puts(a api.Args) string {
	b, e := Put(a)
	if !mayAsk(a) {
		if b != nil || e != api.ErrArg {
			return fmt.Sprintf("Put(%s) = %s, %d; want nothing, ErrArg", brief(a), short(b), e)
		}
		return ""
	}
	if string(b) != told(a) || e != api.OK {
		return fmt.Sprintf("Put(%s) = %s, %d; want %s", brief(a), short(b), e, short(told(a)))
	}
	if again, e := Get(a.Proc, b); !alike(again, a) || e != api.OK {
		return fmt.Sprintf("Put(%s) = %s, which is got as %s, %d", brief(a), short(b), brief(again), e)
	}
	return ""
}

// P11.1, R5: Put and Get of what is written out by hand: each procedure with all of its parts, and with nothing in them; again and again, since a map is gone through in any order.
func TestForms(t *testing.T) {
	seen := map[api.Proc]bool{}
	for range 20 {
		for _, f := range forms() {
			seen[f.args.Proc] = true
			wantPut(t, f.args, f.form)
			wantGet(t, f.form, f.args)
		}
	}
	if len(seen) != lastProc+1 || !seen[0] || !seen[lastProc] {
		t.Errorf("%d procedures", len(seen))
	}
}

// The words by which the other tests judge say the same of what is written out by hand.
func TestModel(t *testing.T) {
	for _, f := range forms() {
		if a, e := model(f.args.Proc, []byte(f.form)); !mayAsk(f.args) || told(f.args) != f.form || !alike(a, f.args) || e != api.OK {
			t.Errorf("%s, %s: %s, %d", brief(f.args), short(f.form), brief(a), e)
		}
	}
}

// P11.1: the chapter's examples.
func TestExamples(t *testing.T) {
	look, form := api.Args{Proc: api.PrLookup, H: []byte{7}, Name: "ab"}, "\x00\x00\x00\x01\x07\x00\x00\x00\x00\x00\x00\x02ab\x00\x00"
	wantPut(t, look, form)
	wantGet(t, form, look)
	wantNoGet(t, api.PrLookup, form+"\x00", api.ErrForm)
	wantNoGet(t, api.PrGetattr, form[:7], api.ErrShort)
	wantNoGet(t, 22, "", api.ErrArg)
	wantNoPut(t, api.Args{Proc: api.PrNull, Bits: 1})
	wantNoPut(t, api.Args{Proc: api.PrWrite, Stable: 3})
	wantNoPut(t, api.Args{Proc: api.PrCreate, How: 2, Set: api.Set{HasMode: true}})
	wantNoPut(t, api.Args{Proc: api.PrMknod, Kind: 7, Offset: 1})
	wantGet(t, "", api.Args{Proc: api.PrNull})
	wantPut(t, api.Args{Proc: api.PrMknod, Kind: 9}, noughts(8)+"\x00\x00\x00\x09")
}

// P11.1: procedures that there are not, whatever is asked, and of whatever bytes: that is told first.
func TestNoProc(t *testing.T) {
	for _, p := range []api.Proc{22, 23, 24, 31, 32, 43, 64, 100, 255, 256, 257, 259, 1 << 16, 1<<16 + 3, 1 << 24, 1<<31 - 1, 1 << 31, 1<<31 + 3, most - 1, most} {
		for _, f := range forms() {
			a := f.args
			a.Proc = p
			wantNoPut(t, a)
			wantNoGet(t, p, f.form, api.ErrArg)
			wantNoGet(t, p, f.form+"\x00", api.ErrArg)
		}
		wantNoPut(t, api.Args{Proc: p, H: make([]byte, 65)})
		wantNoGet(t, p, "\x00", api.ErrArg)
		wantNoGet(t, p, numForm(most), api.ErrArg)
		wantNoGet(t, p, noughts(70000), api.ErrArg)
		if a, e := Get(p, nil); !nothing(a) || e != api.ErrArg {
			t.Errorf("Get(%d, nil) = %s, %d", p, brief(a), e)
		}
	}
}

// sets: what may be set, and what may not.
func sets() []any {
	return []any{
		setMode, setAll, api.Set{HasMode: true}, api.Set{HasMode: true, Mode: 4095}, api.Set{HasUser: true}, api.Set{HasUser: true, User: most}, api.Set{HasGroup: true}, api.Set{HasSize: true}, api.Set{HasSize: true, Size: mostLong},
		api.Set{ReadHow: api.HowNow}, api.Set{ReadHow: api.HowTo, Read: at(most, 999999999)}, api.Set{WriteHow: api.HowNow}, api.Set{WriteHow: api.HowTo}, api.Set{WriteHow: api.HowTo, Write: at(1, 2)},
		api.Set{Mode: 1}, api.Set{HasMode: true, Mode: 4096}, api.Set{User: 1}, api.Set{Group: 1}, api.Set{Size: 1}, api.Set{HasSize: true, Mode: most},
		api.Set{Read: at(1, 0)}, api.Set{ReadHow: api.HowNow, Read: at(0, 1)}, api.Set{ReadHow: api.HowTo, Read: at(0, 1000000000)}, api.Set{ReadHow: 3}, api.Set{ReadHow: most},
		api.Set{Write: at(0, 1)}, api.Set{WriteHow: api.HowNow, Write: at(1, 0)}, api.Set{WriteHow: api.HowTo, Write: at(0, most)}, api.Set{WriteHow: 3, Write: at(1, 1)},
	}
}

// checks: eight bytes, each place with the least and the greatest byte among others, and alone.
func checks() []any {
	list := []any{check, [8]byte{255, 255, 255, 255, 255, 255, 255, 255}}
	for i := range 8 {
		low, high, alone, one := check, check, [8]byte{}, [8]byte{}
		low[i], high[i], alone[i], one[i] = 0, 255, 255, 1
		list = append(list, low, high, alone, one)
	}
	return list
}

// values: what may be asked by that name, at its edges and beyond them.
func values(name string) []any {
	list := []any{reflect.Zero(reflect.TypeOf(place(&api.Args{}, name).Interface())).Interface()}
	switch name {
	case "H", "H2":
		for _, n := range []int{0, 1, 2, 3, 4, 5, 16, 61, 62, 63, 64, 65, 66, 67, 68, 128, 255, 256, 1024} {
			list = append(list, probe.Filled(n), make([]byte, n))
		}
	case "Name", "Name2", "Target":
		for _, n := range []int{0, 1, 2, 3, 4, 5, 6, 7, 8, 254, 255, 256, 257, 1021, 1022, 1023, 1024, 1025, 1026, 1027, 1028, 4096} {
			list = append(list, filled(n), noughts(n), strings.Repeat("/", n))
		}
		list = append(list, "..", "a/b", "a\x00b", "\xff\xfe", "ж")
	case "Data":
		for _, n := range []int{0, 1, 2, 3, 4, 5, 6, 7, 8, 1024, 1025, 32765, 32766, 32767, 32768, 32769, 32770, 32771, 32772, 65536} {
			list = append(list, probe.Filled(n), make([]byte, n))
		}
	case "Set":
		list = append(list, sets()...)
	case "Verf":
		list = append(list, checks()...)
	case "HasGuard":
		list = append(list, true)
	case "Guard":
		list = append(list, at(1, 0), at(0, 1), at(0, 999999999), at(most, 999999999), at(0, 1000000000), at(1, 1<<30), at(1, 1<<31), at(most, most))
	case "Offset", "Cookie":
		for _, n := range []uint64{1, 2, 255, 256, most, most + 1, 1<<63 - 1, 1 << 63, mostLong - 1, mostLong} {
			list = append(list, n)
		}
	default:
		for _, n := range []uint32{1, 2, 3, 4, 5, 6, 7, 8, 9, 10, 255, 256, 257, 258, 259, 1 << 16, 1<<16 + 1, 1 << 24, 1<<31 - 1, 1 << 31, 1<<31 + 2, 1<<31 + 3, most - 1, most} {
			list = append(list, n)
		}
	}
	return list
}

// P11.1, P11.2: each procedure, with nothing in its parts and with all of them, and each thing of all that may be asked, in turn, at its edges: among the parts, and beside them.
func TestEachThing(t *testing.T) {
	for _, f := range forms() {
		for _, name := range fields() {
			for _, x := range values(name) {
				if wrong := puts(with(f.args, name, x)); wrong != "" {
					t.Error(wrong)
				}
			}
		}
	}
}

// P11.1, P11.2: likewise, each two things of a few values each.
func TestEachTwoThings(t *testing.T) {
	t.Parallel()
	few := func(name string) []any {
		list := values(name)
		switch name {
		case "How", "Kind", "Stable", "Verf", "HasGuard":
			return list[:min(len(list), 9)]
		case "Set", "Guard":
			return append([]any{list[0], list[1]}, list[len(list)-4:]...)
		}
		return []any{list[0], list[3], list[len(list)-1]}
	}
	for p := range api.Proc(lastProc + 2) {
		for i, one := range fields() {
			for _, x := range few(one) {
				for _, two := range fields()[:i] {
					for _, y := range few(two) {
						if wrong := puts(with(with(api.Args{Proc: p}, one, x), two, y)); wrong != "" {
							t.Fatal(wrong)
						}
					}
				}
			}
		}
	}
}

// P11.1: each thing that a procedure does not have in the chapter's table, not zero, by the least that it can be.
func TestPutNoPart(t *testing.T) {
	some := api.Args{H: []byte{0}, Name: "\x00", H2: []byte{0}, Name2: "\x00", Set: api.Set{HasMode: true}, HasGuard: true, Guard: at(0, 1), Bits: 1, Offset: 1, Count: 1, Max: 1, Stable: 1, Data: []byte{0}, Target: "\x00", How: 1, Kind: 1, Verf: [8]byte{7: 1}, Cookie: 1}
	for _, f := range forms() {
		for _, name := range fields() {
			if slices.Contains(table(f.args.Proc), name) {
				continue
			}
			wantNoPut(t, with(f.args, name, place(&some, name).Interface()))
		}
	}
	for _, name := range fields() {
		wantNoPut(t, with(api.Args{}, name, place(&some, name).Interface()))
	}
}

// P11.1, R4: what is none of the parts, but an empty list, is nothing, nil or not; so is what is one.
func TestPutNoList(t *testing.T) {
	for _, none := range [][]byte{nil, {}, make([]byte, 0, 9), make([]byte, 70000)[:0]} {
		for _, f := range bareForms() {
			a := f.args
			a.H, a.H2, a.Data = none, none, none
			wantPut(t, a, f.form)
		}
	}
}

// P11.1: H and H2, by their lengths, written out.
func TestHandles(t *testing.T) {
	for n, form := range map[int]string{0: noughts(4), 1: numForm(1) + filled(1) + noughts(3), 64: numForm(64) + filled(64)} {
		b := probe.Filled(n)
		wantPut(t, api.Args{Proc: api.PrGetattr, H: b}, form)
		wantGet(t, form, api.Args{Proc: api.PrGetattr, H: b})
		wantPut(t, api.Args{Proc: api.PrLink, H2: b}, noughts(4)+form+noughts(4))
		wantGet(t, noughts(4)+form+noughts(4), api.Args{Proc: api.PrLink, H2: b})
		wantPut(t, api.Args{Proc: api.PrRename, H: b, H2: b}, form+noughts(4)+form+noughts(4))
	}
	for _, n := range []int{65, 68, 128, 65536} {
		b, form := probe.Filled(n), listForm(filled(n))
		for _, a := range []api.Args{{Proc: api.PrGetattr, H: b}, {Proc: api.PrRename, H: b}, {Proc: api.PrRename, H2: b}, {Proc: api.PrLink, H: b}, {Proc: api.PrLink, H2: b}} {
			wantNoPut(t, a)
		}
		wantNoGet(t, api.PrGetattr, form, api.ErrLimit)
		wantNoGet(t, api.PrRename, noughts(8)+form+noughts(4), api.ErrLimit)
		wantNoGet(t, api.PrLink, noughts(4)+form+noughts(4), api.ErrLimit)
	}
	for p := api.Proc(1); p <= lastProc; p++ {
		wantNoPut(t, api.Args{Proc: p, H: make([]byte, 65)})
		wantNoGet(t, p, numForm(65), api.ErrLimit)
		wantNoGet(t, p, numForm(most)+filled(200), api.ErrLimit)
	}
}

// P11.1: Name, Name2 and Target, by their lengths, written out; whatever they say.
func TestTexts(t *testing.T) {
	pads := map[int]int{0: 0, 1: 3, 2: 2, 3: 1, 4: 0, 256: 0, 1021: 3, 1022: 2, 1023: 1, 1024: 0}
	for n, pad := range pads {
		for _, s := range []string{filled(n), noughts(n), strings.Repeat("/", n)} {
			form := numForm(uint32(n)) + s + noughts(pad)
			for _, f := range []known{
				{api.Args{Proc: api.PrLookup, Name: s}, noughts(4) + form},
				{api.Args{Proc: api.PrRename, Name2: s}, noughts(12) + form},
				{api.Args{Proc: api.PrLink, Name2: s}, noughts(8) + form},
				{api.Args{Proc: api.PrSymlink, Target: s}, noughts(32) + form},
			} {
				wantPut(t, f.args, f.form)
				wantGet(t, f.form, f.args)
			}
		}
	}
	for _, n := range []int{1025, 1028, 4096, 65536} {
		s := filled(n)
		for _, p := range []api.Proc{3, 8, 9, 10, 11, 12, 13, 14} {
			wantNoPut(t, api.Args{Proc: p, Name: s})
			wantNoGet(t, p, noughts(4)+listForm(s), api.ErrLimit)
		}
		wantNoPut(t, api.Args{Proc: api.PrRename, Name2: s})
		wantNoGet(t, api.PrRename, noughts(12)+listForm(s), api.ErrLimit)
		wantNoPut(t, api.Args{Proc: api.PrLink, Name2: s})
		wantNoGet(t, api.PrLink, noughts(8)+listForm(s), api.ErrLimit)
		wantNoPut(t, api.Args{Proc: api.PrSymlink, Target: s})
		wantNoGet(t, api.PrSymlink, noughts(32)+listForm(s), api.ErrLimit)
	}
}

// P11.1: Data, by its length; Stable stands ahead of it, and is told first.
func TestData(t *testing.T) {
	for _, n := range []int{0, 1, 2, 3, 4, 32765, 32766, 32767, 32768} {
		a := api.Args{Proc: api.PrWrite, Data: probe.Filled(n)}
		form := noughts(20) + listForm(filled(n))
		wantPut(t, a, form)
		wantGet(t, form, a)
		wantNoGet(t, api.PrWrite, form+"\x00", api.ErrForm)
		wantNoGet(t, api.PrWrite, form[:len(form)-1], api.ErrShort)
	}
	for _, n := range []int{32769, 32772, 65536, 1 << 20} {
		wantNoPut(t, api.Args{Proc: api.PrWrite, Data: make([]byte, n)})
		wantNoGet(t, api.PrWrite, noughts(20)+numForm(uint32(n)), api.ErrLimit)
		wantNoGet(t, api.PrWrite, noughts(20)+listForm(filled(n)), api.ErrLimit)
		wantNoGet(t, api.PrWrite, noughts(16)+numForm(3)+listForm(filled(n)), api.ErrForm)
	}
}

// P11.1: Stable and How that are too great, with what may stand behind them, with nothing, and with bytes left over; those that are not.
func TestTooGreat(t *testing.T) {
	for n := range uint32(3) {
		wantPut(t, api.Args{Proc: api.PrWrite, Stable: n}, noughts(16)+numForm(n)+noughts(4))
		wantGet(t, noughts(16)+numForm(n)+noughts(4), api.Args{Proc: api.PrWrite, Stable: n})
	}
	for _, n := range []uint32{3, 4, 5, 255, 256, 257, 258, 1 << 16, 1<<24 + 1, 1 << 31, 1<<31 + 2, most - 1, most} {
		wantNoPut(t, api.Args{Proc: api.PrWrite, Stable: n})
		wantNoPut(t, api.Args{Proc: api.PrCreate, How: n})
		wantNoPut(t, api.Args{Proc: api.PrCreate, How: n, Verf: check})
		wantNoPut(t, api.Args{Proc: api.PrCreate, How: n, Set: setMode})
		for _, more := range append(probe.Behind(), noughts(3), noughts(8), noughts(24), noughts(100), numForm(most), filled(60000)) {
			wantNoGet(t, api.PrWrite, noughts(16)+numForm(n)+more, api.ErrForm)
			wantNoGet(t, api.PrCreate, noughts(8)+numForm(n)+more, api.ErrForm)
		}
	}
}

// P11.1: How, with Verf, with Set, with both and with neither.
func TestHow(t *testing.T) {
	for how := range uint32(2) {
		front := noughts(8) + numForm(how)
		wantPut(t, api.Args{Proc: api.PrCreate, How: how}, front+bytesOf(setNoneHex))
		wantPut(t, api.Args{Proc: api.PrCreate, How: how, Set: setMode}, front+bytesOf(setModeHex))
		for _, v := range checks() {
			wantNoPut(t, api.Args{Proc: api.PrCreate, How: how, Verf: v.([8]byte)})
			wantNoPut(t, api.Args{Proc: api.PrCreate, How: how, Set: setMode, Verf: v.([8]byte)})
		}
		wantNoGet(t, api.PrCreate, front+string(check[:]), api.ErrForm)
		wantNoGet(t, api.PrCreate, front+noughts(8), api.ErrShort)
	}
	front := noughts(8) + numForm(2)
	wantPut(t, api.Args{Proc: api.PrCreate, How: 2}, front+noughts(8))
	for _, v := range checks() {
		c := v.([8]byte)
		wantPut(t, api.Args{Proc: api.PrCreate, How: 2, Verf: c}, front+string(c[:]))
		wantGet(t, front+string(c[:]), api.Args{Proc: api.PrCreate, How: 2, Verf: c})
	}
	for _, s := range sets() {
		wantNoPut(t, api.Args{Proc: api.PrCreate, How: 2, Set: s.(api.Set)})
		wantNoPut(t, api.Args{Proc: api.PrCreate, How: 2, Verf: check, Set: s.(api.Set)})
	}
	wantNoGet(t, api.PrCreate, front+bytesOf(setNoneHex), api.ErrForm)
	wantNoGet(t, api.PrCreate, front+noughts(7), api.ErrShort)
}

// P11.1: Kind, with Set, with Offset, with both and with neither.
func TestKind(t *testing.T) {
	for _, kind := range []uint32{0, 1, 2, 3, 4, 5, 6, 7, 8, 9, 10, 255, 256, 259, 262, 1 << 31, 1<<31 + 3, most} {
		neither := api.Args{Proc: api.PrMknod, Kind: kind}
		setAlone, offsetAlone, both := neither, neither, neither
		setAlone.Set, both.Set = setMode, setMode
		offsetAlone.Offset, both.Offset = 9, 9
		front := noughts(8) + numForm(kind)
		switch kind {
		case 3, 4:
			wantPut(t, neither, front+noughts(32))
			wantPut(t, setAlone, front+bytesOf(setModeHex)+noughts(8))
			wantPut(t, offsetAlone, front+noughts(24)+longForm(9))
			wantPut(t, both, front+bytesOf(setModeHex)+longForm(9))
			wantGet(t, front+bytesOf(setModeHex)+longForm(9), both)
			wantNoGet(t, api.PrMknod, front+noughts(24), api.ErrShort)
		case 6, 7:
			wantPut(t, neither, front+noughts(24))
			wantPut(t, setAlone, front+bytesOf(setModeHex))
			wantGet(t, front+bytesOf(setModeHex), setAlone)
			wantNoPut(t, offsetAlone)
			wantNoPut(t, both)
			wantNoGet(t, api.PrMknod, front+noughts(32), api.ErrForm)
			wantNoGet(t, api.PrMknod, front, api.ErrShort)
		default:
			wantPut(t, neither, front)
			wantGet(t, front, neither)
			wantNoPut(t, setAlone)
			wantNoPut(t, offsetAlone)
			wantNoPut(t, both)
			wantNoGet(t, api.PrMknod, front+noughts(24), api.ErrForm)
			wantNoGet(t, api.PrMknod, front+noughts(32), api.ErrForm)
		}
	}
}

// P11.1: HasGuard with each Guard, and without.
func TestGuard(t *testing.T) {
	front := noughts(28) + numForm(1)
	for _, g := range []api.Time{{}, at(1, 0), at(0, 1), at(0x01020304, 0x05060708), at(0, 999999999), at(most, 999999999)} {
		a := api.Args{Proc: api.PrSetattr, HasGuard: true, Guard: g}
		wantPut(t, a, front+numForm(g.Sec)+numForm(g.Nano))
		wantGet(t, front+numForm(g.Sec)+numForm(g.Nano), a)
		if g != (api.Time{}) {
			wantNoPut(t, api.Args{Proc: api.PrSetattr, Guard: g})
		}
	}
	for _, g := range []api.Time{at(0, 1000000000), at(1, 1000000001), at(0, 1<<30), at(0, 1<<31), at(most, most)} {
		wantNoPut(t, api.Args{Proc: api.PrSetattr, HasGuard: true, Guard: g})
		wantNoPut(t, api.Args{Proc: api.PrSetattr, Guard: g})
		for _, more := range probe.Behind() {
			wantNoGet(t, api.PrSetattr, front+numForm(g.Sec)+numForm(g.Nano)+more, api.ErrForm)
		}
	}
	for _, n := range []uint32{2, 3, 256, 257, 1 << 24, 1<<24 + 1, 1 << 31, most} {
		for _, more := range append(probe.Behind(), noughts(8), noughts(7)) {
			wantNoGet(t, api.PrSetattr, noughts(28)+numForm(n)+more, api.ErrForm)
		}
	}
	wantNoGet(t, api.PrSetattr, noughts(32)+noughts(8), api.ErrForm)
}

// P11.1: what may be set, and what may not, of each procedure that sets.
func TestSet(t *testing.T) {
	for _, f := range []known{
		{api.Args{Proc: api.PrSetattr}, noughts(4)}, {api.Args{Proc: api.PrCreate}, noughts(12)}, {api.Args{Proc: api.PrCreate, How: 1}, noughts(8) + numForm(1)}, {api.Args{Proc: api.PrMkdir}, noughts(8)},
		{api.Args{Proc: api.PrSymlink}, noughts(8)}, {api.Args{Proc: api.PrMknod, Kind: 3}, noughts(8) + numForm(3)}, {api.Args{Proc: api.PrMknod, Kind: 7}, noughts(8) + numForm(7)},
	} {
		for _, x := range sets() {
			a := f.args
			a.Set = x.(api.Set)
			if wrong := puts(a); wrong != "" {
				t.Error(wrong)
			}
		}
		a := f.args
		a.Set = api.Set{Mode: 7}
		wantNoPut(t, a)
		a.Set = api.Set{HasMode: true, Mode: 4096}
		wantNoPut(t, a)
		for fault, e := range map[string]api.Errno{numForm(2): api.ErrForm, numForm(1) + numForm(4096): api.ErrForm, noughts(20) + numForm(3): api.ErrForm, noughts(16) + numForm(2) + noughts(4) + numForm(1000000000): api.ErrForm, noughts(23): api.ErrShort, numForm(1) + numForm(7) + noughts(19): api.ErrShort} {
			wantNoGet(t, f.args.Proc, f.form+fault, e)
			if e == api.ErrForm {
				wantNoGet(t, f.args.Proc, f.form+fault+noughts(60), e)
			}
		}
	}
}

// P11.1, P11.2: each form cut short at every place: too few, and nothing is got; their spare room does not count.
func TestGetShort(t *testing.T) {
	for _, f := range forms() {
		whole := []byte(f.form)
		for n := range whole {
			wantNoGet(t, f.args.Proc, f.form[:n], api.ErrShort)
			if a, e := Get(f.args.Proc, whole[:n]); !nothing(a) || e != api.ErrShort {
				t.Errorf("Get(%d, the first %d of %s) = %s, %d", f.args.Proc, n, short(f.form), brief(a), e)
			}
		}
	}
	for p := range api.Proc(lastProc + 1) {
		for _, none := range [][]byte{nil, {}, make([]byte, 0, 200)} {
			if wrong := gets(p, none); wrong != "" {
				t.Error(wrong)
			}
		}
	}
}

// P11.1: bytes left behind, one and many.
func TestGetBehind(t *testing.T) {
	for _, f := range forms() {
		for _, more := range append(probe.Behind()[1:], "\xff", noughts(7), noughts(8), noughts(24), noughts(60000), numForm(1), "form"+f.form) {
			wantNoGet(t, f.args.Proc, f.form+more, api.ErrForm)
		}
	}
}

// P11.1: a padding that is not 0: of each list, ahead of all that stands behind it.
func TestGetPadding(t *testing.T) {
	for p := range api.Proc(lastProc + 1) {
		front := ""
		for _, name := range table(p) {
			kind := place(&api.Args{}, name).Kind()
			if kind == reflect.Slice || kind == reflect.String {
				for n := 1; n <= 3; n++ {
					for b := range probe.Spoilt(listForm(filled(n)), 4-n) {
						wantNoGet(t, p, front+b, api.ErrForm)
						wantNoGet(t, p, front+b+"behind", api.ErrForm)
						wantNoGet(t, p, front+b+numForm(most), api.ErrForm)
						wantNoGet(t, p, front+b[:len(b)-1], api.ErrShort)
					}
				}
			}
			if has(api.Args{Proc: p}, name) {
				front += partForm(api.Args{}, name)
			}
		}
	}
}

// P11.1, R2: of two faults the one that stands further ahead is told, and of one thing that has two, the one that its own layer tells.
func TestGetOrder(t *testing.T) {
	for _, c := range []struct {
		p    api.Proc
		b    string
		want api.Errno
	}{
		{api.PrGetattr, numForm(65), api.ErrLimit},
		{api.PrGetattr, numForm(65) + filled(3), api.ErrLimit},
		{api.PrGetattr, numForm(64) + filled(63), api.ErrShort},
		{api.PrGetattr, numForm(1) + "\x07\x00\x01", api.ErrShort},
		{api.PrGetattr, numForm(1) + "\x07\x00\x00\x01" + "7", api.ErrForm},
		{api.PrLookup, numForm(65) + numForm(1025), api.ErrLimit},
		{api.PrLookup, numForm(1) + "\x07\x00\x00\x01" + numForm(1025), api.ErrForm},
		{api.PrLookup, noughts(4) + numForm(1025) + filled(2), api.ErrLimit},
		{api.PrLookup, noughts(4) + numForm(1024) + filled(1025), api.ErrForm},
		{api.PrRename, noughts(4) + numForm(1025) + numForm(65), api.ErrLimit},
		{api.PrRename, noughts(4) + numForm(1) + "a\x00\x00\x01" + numForm(65), api.ErrForm},
		{api.PrRename, noughts(8) + numForm(65) + noughts(2), api.ErrLimit},
		{api.PrLink, noughts(4) + numForm(3) + "abc\x01" + numForm(1025), api.ErrForm},
		{api.PrLink, noughts(8) + numForm(1025), api.ErrLimit},
		{api.PrSetattr, noughts(4) + numForm(2), api.ErrForm},
		{api.PrSetattr, noughts(28) + numForm(2), api.ErrForm},
		{api.PrSetattr, noughts(4) + numForm(1) + numForm(4096) + noughts(20) + numForm(2), api.ErrForm},
		{api.PrSetattr, noughts(28) + numForm(1) + noughts(4) + "\x3b\x9a\xca", api.ErrShort},
		{api.PrSetattr, noughts(28) + numForm(1) + noughts(4) + "\x3b\x9a\xca\x00", api.ErrForm},
		{api.PrSetattr, numForm(65) + numForm(2), api.ErrLimit},
		{api.PrWrite, noughts(16) + numForm(3) + numForm(32769), api.ErrForm},
		{api.PrWrite, noughts(20) + numForm(32769), api.ErrLimit},
		{api.PrWrite, noughts(16) + "\x00\x00\x03", api.ErrShort},
		{api.PrWrite, noughts(20) + numForm(32768) + noughts(32767), api.ErrShort},
		{api.PrCreate, numForm(65) + noughts(4) + numForm(3), api.ErrLimit},
		{api.PrCreate, noughts(4) + numForm(1025) + numForm(3), api.ErrLimit},
		{api.PrCreate, noughts(8) + numForm(3) + numForm(2), api.ErrForm},
		{api.PrCreate, noughts(8) + "\x00\x00\x03", api.ErrShort},
		{api.PrCreate, noughts(8) + numForm(2) + noughts(9), api.ErrForm},
		{api.PrSymlink, noughts(8) + numForm(2) + noughts(20) + numForm(1025), api.ErrForm},
		{api.PrSymlink, noughts(32) + numForm(1025), api.ErrLimit},
		{api.PrMknod, noughts(4) + numForm(1025) + numForm(3) + numForm(2), api.ErrLimit},
		{api.PrMknod, noughts(8) + numForm(3) + numForm(2), api.ErrForm},
		{api.PrMknod, noughts(8) + numForm(3) + noughts(31), api.ErrShort},
		{api.PrReaddir, numForm(65) + noughts(20), api.ErrLimit},
		{api.PrReaddir, noughts(25), api.ErrForm},
		{api.PrReaddirplus, noughts(27), api.ErrShort},
		{api.PrNull, "\x00", api.ErrForm},
		{api.PrNull, numForm(most), api.ErrForm},
	} {
		wantNoGet(t, c.p, c.b, c.want)
	}
}

// P11.1, P11.2, P0.1: each byte of each form changed alone in every way.
func TestEveryByte(t *testing.T) {
	t.Parallel()
	for _, f := range forms() {
		for b := range probe.EveryByte(f.form) {
			if wrong := gets(f.args.Proc, b); wrong != "" {
				t.Fatal(wrong)
			}
		}
	}
}

// P11.1: each byte changed to a few others, with bytes behind, and cut short behind it: what is wrong ahead is told first.
func TestEveryByteAndMore(t *testing.T) {
	for _, f := range forms() {
		for place := range len(f.form) {
			for _, x := range []byte{0, 1, 2, 3, 16, 65, 128, 255} {
				b := []byte(f.form + "behind")
				b[place] = x
				for _, size := range []int{len(b), len(f.form) + 1, len(f.form) - 1, place/4*4 + 4, place + 1} {
					if wrong := gets(f.args.Proc, b[:size]); wrong != "" {
						t.Fatal(wrong)
					}
				}
			}
		}
	}
}

// P11.1, P11.2: what one procedure has is asked of every other one.
func TestOtherProcs(t *testing.T) {
	for _, f := range forms() {
		for p := range api.Proc(lastProc + 3) {
			if wrong := gets(p, []byte(f.form)); wrong != "" {
				t.Error(wrong)
			}
			a := f.args
			a.Proc = p
			if wrong := puts(a); wrong != "" {
				t.Error(wrong)
			}
		}
	}
}

// P11.1, P11.2, R1: bytes of all sorts, small numbers among them, so that many of them are got.
func TestAnyBytes(t *testing.T) {
	t.Parallel()
	source := rand.New(rand.NewSource(11))
	got := map[api.Proc]int{}
	for range 200000 {
		var b []byte
		for range source.Intn(14) {
			n := [...]uint32{0, 0, 0, uint32(source.Intn(5)), source.Uint32() >> (source.Intn(4) * 8)}[source.Intn(5)]
			b = append(b, numForm(n)...)
		}
		b = b[:len(b)-min(len(b), max(source.Intn(12)-8, 0))]
		p := api.Proc(source.Intn(lastProc + 3))
		if wrong := gets(p, b); wrong != "" {
			t.Fatal(wrong)
		}
		if _, e := Get(p, b); e == api.OK {
			got[p]++
		}
	}
	if len(got) != lastProc+1 {
		t.Errorf("got of %d procedures: %v", len(got), got)
	}
}

// P11.2: of fewer bytes than what is got has, nothing is got.
func TestGetFewer(t *testing.T) {
	t.Parallel()
	for _, f := range forms() {
		for _, name := range table(f.args.Proc) {
			for _, x := range values(name) {
				a := with(f.args, name, x)
				if !mayAsk(a) {
					continue
				}
				b := []byte(told(a))
				for n := 0; n < len(b); n += 1 + len(b)/97 {
					if got, e := Get(a.Proc, b[:n]); !nothing(got) || e != api.ErrShort {
						t.Fatalf("Get(%d, the first %d of %s) = %s, %d", a.Proc, n, short(b), brief(got), e)
					}
				}
			}
		}
	}
}

// listsOf: the lists among what is asked, by their places.
func listsOf(a *api.Args) []*[]byte { return []*[]byte{&a.H, &a.H2, &a.Data} }

// R4: what is handed in is not changed, its spare room neither.
func TestHandedInStays(t *testing.T) {
	for _, f := range forms() {
		for size := range len(f.form) + 1 {
			in := []byte(f.form + "behind")
			Get(f.args.Proc, in[:size])
			if string(in) != f.form+"behind" {
				t.Errorf("Get(%d, the first %d of %s) changed them", f.args.Proc, size, short(f.form))
			}
		}
		for _, p := range []api.Proc{f.args.Proc, 0, 7, 14, 22} {
			a := f.args
			a.Proc = p
			var rooms []string
			for _, list := range listsOf(&a) {
				room := append(bytes.Clone(*list), "behind"...)
				rooms = append(rooms, string(room))
				*list = room[:len(*list)]
			}
			Put(a)
			for i, list := range listsOf(&a) {
				if now := (*list)[:len(rooms[i])]; string(now) != rooms[i] {
					t.Errorf("Put(%s) left %x", brief(a), now)
				}
			}
		}
	}
}

// R4: what Put answers is new memory, spare room too: it changes with nothing else, and nothing changes with it.
func TestPutSharesNothing(t *testing.T) {
	for _, f := range forms() {
		a := f.args
		for _, list := range listsOf(&a) {
			*list = bytes.Clone(*list)
		}
		first, _ := Put(a)
		second, _ := Put(a)
		probe.Scribble(first)
		if !alike(a, f.args) || string(second) != f.form {
			t.Errorf("%s: %s: changed with an answer", brief(f.args), short(second))
		}
		wantPut(t, a, f.form)
		probe.Scribble(a.H, a.H2, a.Data)
		if string(second) != f.form {
			t.Errorf("%s: %s: changed with what was asked", brief(f.args), short(second))
		}
	}
}

// R4: what Get answers is new memory likewise, and no two lists of one answer share any.
func TestGetSharesNothing(t *testing.T) {
	for _, f := range forms() {
		in := []byte(f.form + "behind")
		second, _ := Get(f.args.Proc, in[:len(f.form)])
		for i := range 3 {
			first, _ := Get(f.args.Proc, in[:len(f.form)])
			probe.Scribble(*listsOf(&first)[i])
			*listsOf(&first)[i] = *listsOf(&second)[i]
			if !alike(first, f.args) {
				t.Errorf("%s: %s: changed with another list", brief(f.args), brief(first))
			}
		}
		if string(in) != f.form+"behind" || !alike(second, f.args) {
			t.Errorf("%s: %s: changed with an answer", brief(f.args), brief(second))
		}
		wantGet(t, f.form, f.args)
		probe.Scribble(in)
		if !alike(second, f.args) {
			t.Errorf("%s: %s: changed with the bytes", brief(f.args), brief(second))
		}
	}
}

// P11.1, P11.2, R1, R2: any bytes, of any procedure, and whatever is asked.
func FuzzWhatFollows(f *testing.F) {
	for _, k := range forms() {
		f.Add(uint32(k.args.Proc), []byte(k.form), uint32(k.args.Proc), k.args.H, k.args.Name, k.args.Offset, k.args.How)
	}
	f.Fuzz(func(t *testing.T, p uint32, b []byte, proc uint32, list []byte, text string, long uint64, n uint32) {
		if wrong := gets(api.Proc(p), b); wrong != "" {
			t.Fatal(wrong)
		}
		some := api.Args{Proc: api.Proc(proc)}
		for _, name := range fields() {
			x := place(&some, name)
			switch {
			case !has(some, name) && n%7 > 0:
			case x.Kind() == reflect.Slice:
				x.SetBytes(list)
			case x.Kind() == reflect.String:
				x.SetString(text)
			case x.Kind() == reflect.Uint64:
				x.SetUint(long)
			case x.Kind() == reflect.Uint32:
				x.SetUint(uint64(n))
			}
		}
		if wrong := puts(some); wrong != "" {
			t.Fatal(wrong)
		}
	})
}
