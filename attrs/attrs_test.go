package attrs

import (
	"bytes"
	"encoding/binary"
	"encoding/hex"
	"errors"
	"fmt"
	"math"
	"slices"
	"strings"
	"testing"

	"wharfinger/api"
	"wharfinger/probe"
)

// most and mostLong are the greatest numbers of each kind.
const (
	most     = math.MaxUint32
	mostLong = math.MaxUint64
)

// at: a point of time.
func at(sec, nano uint32) api.Time { return api.Time{Sec: sec, Nano: nano} }

// bytesOf reads bytes as a document writes them, two digits each, with spaces for the eye.
func bytesOf(text string) string {
	b, err := hex.DecodeString(strings.ReplaceAll(text, " ", ""))
	if err != nil {
		panic(err)
	}
	return string(b)
}

// noughts: so many bytes 0.
func noughts(n int) string { return string(make([]byte, n)) }

// numForm and longForm: numbers as bytes, made otherwise than in the program.
func numForm(n uint32) string { return string(binary.BigEndian.AppendUint32(nil, n)) }

func longForm(n uint64) string { return string(binary.BigEndian.AppendUint64(nil, n)) }

// The forms of yes, of no, and of numbers that are neither.
const (
	yes = "\x00\x00\x00\x01"
	no  = "\x00\x00\x00\x00"
)

func neither() []string {
	return []string{numForm(2), numForm(3), numForm(256), numForm(257), numForm(1 << 24), numForm(1<<24 + 1), numForm(1 << 31), numForm(most)}
}

// known: a thing, and how it is put.
type known[T any] struct {
	thing T
	form  string
}

// kindOf: what is put and got by one pair of calls, with the chapter's words for it, walked by hand.
type kindOf[T comparable] struct {
	name  string
	put   func(T) ([]byte, api.Errno)
	get   func([]byte) (T, int, api.Errno)
	model func([]byte) (T, int, api.Errno)
	mayBe func(T) bool
	forms []known[T]
}

var (
	nodes = kindOf[api.Attrs]{"", Put, Get, modelNode, mayTell, nodeForms()}
	sets  = kindOf[api.Set]{"Set", PutSet, GetSet, modelSet, maySet, setForms()}
	weaks = kindOf[api.Weak]{"Weak", PutWeak, GetWeak, modelWeak, mayWeak, weakForms()}
)

// file is the node of the chapter's example; dir the one with the least in it; all the one with the most.
var (
	file    = api.Attrs{Kind: api.KiFile, Mode: 420, Links: 1, Size: 5, Used: 5, ID: 7}
	dir     = api.Attrs{Kind: api.KiDir}
	allNode = api.Attrs{Kind: api.KiLink, Mode: 4095, Links: most, User: most, Group: most, Size: mostLong, Used: mostLong, ID: mostLong, Read: at(most, 999999999), Write: at(most, 999999999), Turn: at(most, 999999999)}
)

const (
	fileHex = "00000001 000001a4 00000001 00000000 00000000 0000000000000005 0000000000000005 00000000 00000000 0000000000000001 0000000000000007 00000000 00000000 00000000 00000000 00000000 00000000"
	dirHex  = "00000002 00000000 00000000 00000000 00000000 0000000000000000 0000000000000000 00000000 00000000 0000000000000001 0000000000000000 00000000 00000000 00000000 00000000 00000000 00000000"
	allHex  = "00000005 00000fff ffffffff ffffffff ffffffff ffffffffffffffff ffffffffffffffff 00000000 00000000 0000000000000001 ffffffffffffffff ffffffff 3b9ac9ff ffffffff 3b9ac9ff ffffffff 3b9ac9ff"
)

// nodeForms: nodes that may be told, and how they are put, written out.
func nodeForms() []known[api.Attrs] {
	return []known[api.Attrs]{
		{file, bytesOf(fileHex)},
		{dir, bytesOf(dirHex)},
		{allNode, bytesOf(allHex)},
		{api.Attrs{Kind: api.KiLink}, bytesOf("00000005 00000000 00000000 00000000 00000000 0000000000000000 0000000000000000 00000000 00000000 0000000000000001 0000000000000000 00000000 00000000 00000000 00000000 00000000 00000000")},
		{
			api.Attrs{Kind: api.KiDir, Mode: 0x102, Links: 0x03040506, User: 0x0708090a, Group: 0x0b0c0d0e, Size: 0x0f10111213141516, Used: 0x1718191a1b1c1d1e, ID: 0x1f20212223242526, Read: at(0x2728292a, 0x2b2c2d2e), Write: at(0x2f303132, 0x33343536), Turn: at(0x3738393a, 0x3b3c3d)},
			bytesOf("00000002 00000102 03040506 0708090a 0b0c0d0e 0f10111213141516 1718191a1b1c1d1e 00000000 00000000 0000000000000001 1f20212223242526 2728292a 2b2c2d2e 2f303132 33343536 3738393a 003b3c3d"),
		},
	}
}

// setForms: what may be set, likewise.
func setForms() []known[api.Set] {
	return []known[api.Set]{
		{api.Set{}, noughts(24)},
		{api.Set{HasMode: true, Mode: 7}, bytesOf("00000001 00000007 00000000 00000000 00000000 00000000 00000000")},
		{api.Set{HasMode: true}, bytesOf("00000001 00000000 00000000 00000000 00000000 00000000 00000000")},
		{api.Set{HasMode: true, Mode: 4095}, bytesOf("00000001 00000fff 00000000 00000000 00000000 00000000 00000000")},
		{api.Set{HasUser: true, User: 0x01020304}, bytesOf("00000000 00000001 01020304 00000000 00000000 00000000 00000000")},
		{api.Set{HasUser: true}, bytesOf("00000000 00000001 00000000 00000000 00000000 00000000 00000000")},
		{api.Set{HasGroup: true, Group: 0x01020304}, bytesOf("00000000 00000000 00000001 01020304 00000000 00000000 00000000")},
		{api.Set{HasGroup: true}, bytesOf("00000000 00000000 00000001 00000000 00000000 00000000 00000000")},
		{api.Set{HasSize: true, Size: 0x0102030405060708}, bytesOf("00000000 00000000 00000000 00000001 0102030405060708 00000000 00000000")},
		{api.Set{HasSize: true}, bytesOf("00000000 00000000 00000000 00000001 0000000000000000 00000000 00000000")},
		{api.Set{ReadHow: api.HowNow}, bytesOf("00000000 00000000 00000000 00000000 00000001 00000000")},
		{api.Set{ReadHow: api.HowTo}, bytesOf("00000000 00000000 00000000 00000000 00000002 00000000 00000000 00000000")},
		{api.Set{ReadHow: api.HowTo, Read: at(0x01020304, 0x05060708)}, bytesOf("00000000 00000000 00000000 00000000 00000002 01020304 05060708 00000000")},
		{api.Set{WriteHow: api.HowNow}, bytesOf("00000000 00000000 00000000 00000000 00000000 00000001")},
		{api.Set{WriteHow: api.HowTo}, bytesOf("00000000 00000000 00000000 00000000 00000000 00000002 00000000 00000000")},
		{api.Set{WriteHow: api.HowTo, Write: at(0x01020304, 0x05060708)}, bytesOf("00000000 00000000 00000000 00000000 00000000 00000002 01020304 05060708")},
		{api.Set{ReadHow: api.HowNow, WriteHow: api.HowTo, Write: at(1, 2)}, bytesOf("00000000 00000000 00000000 00000000 00000001 00000002 00000001 00000002")},
		{
			api.Set{HasMode: true, Mode: 0x102, HasUser: true, User: 3, HasGroup: true, Group: 4, HasSize: true, Size: 5, ReadHow: api.HowTo, Read: at(6, 7), WriteHow: api.HowTo, Write: at(8, 9)},
			bytesOf("00000001 00000102 00000001 00000003 00000001 00000004 00000001 0000000000000005 00000002 00000006 00000007 00000002 00000008 00000009"),
		},
		{
			api.Set{HasMode: true, Mode: 4095, HasUser: true, User: most, HasGroup: true, Group: most, HasSize: true, Size: mostLong, ReadHow: api.HowTo, Read: at(most, 999999999), WriteHow: api.HowTo, Write: at(most, 999999999)},
			bytesOf("00000001 00000fff 00000001 ffffffff 00000001 ffffffff 00000001 ffffffffffffffff 00000002 ffffffff 3b9ac9ff 00000002 ffffffff 3b9ac9ff"),
		},
	}
}

// weakForms: what may have been told ahead, behind, both and neither, likewise.
func weakForms() []known[api.Weak] {
	return []known[api.Weak]{
		{api.Weak{}, noughts(8)},
		{api.Weak{HasBefore: true}, bytesOf("00000001 0000000000000000 00000000 00000000 00000000 00000000 00000000")},
		{api.Weak{HasBefore: true, Size: 5}, bytesOf("00000001 0000000000000005 00000000 00000000 00000000 00000000 00000000")},
		{api.Weak{HasBefore: true, Size: 0x0102030405060708, Write: at(0x090a0b0c, 0x0d0e0f10), Turn: at(0x11121314, 0x15161718)}, bytesOf("00000001 0102030405060708 090a0b0c 0d0e0f10 11121314 15161718 00000000")},
		{api.Weak{HasBefore: true, Size: mostLong, Write: at(most, 999999999), Turn: at(most, 999999999)}, bytesOf("00000001 ffffffffffffffff ffffffff 3b9ac9ff ffffffff 3b9ac9ff 00000000")},
		{api.Weak{HasAfter: true, After: dir}, bytesOf("00000000 00000001" + dirHex)},
		{api.Weak{HasAfter: true, After: file}, bytesOf("00000000 00000001" + fileHex)},
		{api.Weak{HasAfter: true, After: allNode}, bytesOf("00000000 00000001" + allHex)},
		{api.Weak{HasBefore: true, HasAfter: true, After: dir}, bytesOf("00000001 0000000000000000 00000000 00000000 00000000 00000000 00000001" + dirHex)},
		{api.Weak{HasBefore: true, Size: 1, Write: at(2, 3), Turn: at(4, 5), HasAfter: true, After: file}, bytesOf("00000001 0000000000000001 00000002 00000003 00000004 00000005 00000001" + fileHex)},
		{api.Weak{HasBefore: true, Size: mostLong, Write: at(most, 999999999), Turn: at(most, 999999999), HasAfter: true, After: allNode}, bytesOf("00000001 ffffffffffffffff ffffffff 3b9ac9ff ffffffff 3b9ac9ff 00000001" + allHex)},
	}
}

// isTime, mayTell, maySet and mayWeak: the chapter's words for what may be.
func isTime(list ...api.Time) bool {
	return !slices.ContainsFunc(list, func(t api.Time) bool { return t.Nano > 999999999 })
}

func mayTell(a api.Attrs) bool {
	return slices.Contains([]api.Kind{1, 2, 5}, a.Kind) && a.Mode < 4096 && isTime(a.Read, a.Write, a.Turn)
}

func maySet(s api.Set) bool {
	had := (s.HasMode || s.Mode == 0) && (s.HasUser || s.User == 0) && (s.HasGroup || s.Group == 0) && (s.HasSize || s.Size == 0)
	times := (s.ReadHow == 2 || s.Read == at(0, 0)) && (s.WriteHow == 2 || s.Write == at(0, 0))
	return had && times && s.Mode < 4096 && s.ReadHow < 3 && s.WriteHow < 3 && isTime(s.Read, s.Write)
}

func mayWeak(w api.Weak) bool {
	if !w.HasBefore && (w.Size != 0 || w.Write != at(0, 0) || w.Turn != at(0, 0)) {
		return false
	}
	if !w.HasAfter && w.After != (api.Attrs{}) {
		return false
	}
	return isTime(w.Write, w.Turn) && (!w.HasAfter || mayTell(w.After))
}

// walk reads bytes as the chapter has them; behind the first error it reads no more, and answers noughts.
type walk struct {
	rest []byte
	e    api.Errno
}

func (w *walk) take(n int) []byte {
	if w.e == api.OK && len(w.rest) < n {
		w.e = api.ErrShort
	}
	if w.e != api.OK {
		return make([]byte, n)
	}
	b := w.rest[:n]
	w.rest = w.rest[n:]
	return b
}

func (w *walk) ask(ok bool) {
	if w.e == api.OK && !ok {
		w.e = api.ErrForm
	}
}

func (w *walk) number() uint32 { return binary.BigEndian.Uint32(w.take(4)) }

func (w *walk) long() uint64 { return binary.BigEndian.Uint64(w.take(8)) }

func (w *walk) yes() bool {
	n := w.number()
	w.ask(n < 2)
	return w.e == api.OK && n == 1
}

func (w *walk) time() api.Time {
	b := w.take(8)
	t := at(binary.BigEndian.Uint32(b), binary.BigEndian.Uint32(b[4:]))
	w.ask(isTime(t))
	return t
}

// node reads what stands in each of the 84 places, and only then asks whether it may be told.
func (w *walk) node() api.Attrs {
	b := w.take(84)
	n := func(place int) uint32 { return binary.BigEndian.Uint32(b[place:]) }
	l := func(place int) uint64 { return binary.BigEndian.Uint64(b[place:]) }
	a := api.Attrs{Kind: api.Kind(n(0)), Mode: n(4), Links: n(8), User: n(12), Group: n(16), Size: l(20), Used: l(28), ID: l(52), Read: at(n(60), n(64)), Write: at(n(68), n(72)), Turn: at(n(76), n(80))}
	w.ask(l(36) == 0 && l(44) == 1 && mayTell(a))
	return a
}

func (w *walk) how() (how api.How, t api.Time) {
	how = api.How(w.number())
	w.ask(how < 3)
	if how == 2 {
		t = w.time()
	}
	return how, t
}

// walked ends a walk: with an error there is nothing beside it. (R2)
func walked[T any](b []byte, read func(*walk) T) (x T, n int, e api.Errno) {
	w := walk{rest: b}
	got := read(&w)
	if w.e != api.OK {
		return x, 0, w.e
	}
	return got, len(b) - len(w.rest), api.OK
}

func modelNode(b []byte) (api.Attrs, int, api.Errno) { return walked(b, (*walk).node) }

func modelSet(b []byte) (api.Set, int, api.Errno) {
	return walked(b, func(w *walk) (s api.Set) {
		if s.HasMode = w.yes(); s.HasMode {
			s.Mode = w.number()
			w.ask(s.Mode < 4096)
		}
		if s.HasUser = w.yes(); s.HasUser {
			s.User = w.number()
		}
		if s.HasGroup = w.yes(); s.HasGroup {
			s.Group = w.number()
		}
		if s.HasSize = w.yes(); s.HasSize {
			s.Size = w.long()
		}
		s.ReadHow, s.Read = w.how()
		s.WriteHow, s.Write = w.how()
		return s
	})
}

func modelWeak(b []byte) (api.Weak, int, api.Errno) {
	return walked(b, func(w *walk) (k api.Weak) {
		if k.HasBefore = w.yes(); k.HasBefore {
			k.Size, k.Write, k.Turn = w.long(), w.time(), w.time()
		}
		if k.HasAfter = w.yes(); k.HasAfter {
			k.After = w.node()
		}
		return k
	})
}

func (k kindOf[T]) wantPut(t *testing.T, x T, want string) {
	t.Helper()
	if b, e := k.put(x); string(b) != want || e != api.OK {
		t.Errorf("Put%s(%+v) = %x, %d; want %x", k.name, x, b, e, want)
	}
}

// wantNoPut asks for what may not be put: the error, and nothing beside it. (R2)
func (k kindOf[T]) wantNoPut(t *testing.T, x T) {
	t.Helper()
	if b, e := k.put(x); len(b) != 0 || e != api.ErrArg {
		t.Errorf("Put%s(%+v) = %x, %d; want nothing, ErrArg", k.name, x, b, e)
	}
}

func (k kindOf[T]) wantGet(t *testing.T, b string, want T, many int) {
	t.Helper()
	if x, n, e := k.get([]byte(b)); x != want || n != many || e != api.OK {
		t.Errorf("Get%s(%x) = %+v, %d, %d; want %+v, %d", k.name, b, x, n, e, want, many)
	}
}

// wantNoGet asks Get of bytes of none: the error, and nothing beside it. (R2)
func (k kindOf[T]) wantNoGet(t *testing.T, b string, want api.Errno) {
	t.Helper()
	var none T
	if x, n, e := k.get([]byte(b)); x != none || n != 0 || e != want {
		t.Errorf("Get%s(%x) = %+v, %d, %d; want nothing, %d", k.name, b, x, n, e, want)
	}
}

// gets says what is wrong, if bytes are not got as they may be, or not put so again. (P10.1 to P10.4, P0.1, R2)
func (k kindOf[T]) gets(b []byte) string {
	want, many, wrong := k.model(b)
	x, n, e := k.get(b)
	if x != want || n != many || e != wrong {
		return fmt.Sprintf("Get%s(%x) = %+v, %d, %d; want %+v, %d, %d", k.name, b, x, n, e, want, many, wrong)
	}
	if e != api.OK {
		return ""
	}
	if again, e := k.put(x); !k.mayBe(x) || !bytes.Equal(again, b[:n]) || e != api.OK {
		return fmt.Sprintf("Get%s(%x) = %+v, which is put as %x, %d", k.name, b, x, again, e)
	}
	return ""
}

// puts says what is wrong, if a thing is not put, though it may be, or put, though it may not, or not got again, whatever stands behind it. (P10.1 to P10.4, P0.1, R2)
func (k kindOf[T]) puts(x T) string {
	b, e := k.put(x)
	if !k.mayBe(x) {
		if len(b) != 0 || e != api.ErrArg {
			return fmt.Sprintf("Put%s(%+v) = %x, %d; want nothing, ErrArg", k.name, x, b, e)
		}
		return ""
	}
	if e != api.OK {
		return fmt.Sprintf("Put%s(%+v): %d", k.name, x, e)
	}
	for _, more := range probe.Behind() {
		if again, n, e := k.get([]byte(string(b) + more)); again != x || n != len(b) || e != api.OK {
			return fmt.Sprintf("Put%s(%+v) = %x, which with %q is got as %+v, %d, %d", k.name, x, b, more, again, n, e)
		}
	}
	return ""
}

// R5: Put and Get of what is written out by hand, whatever stands behind it; again, behind all others.
func (k kindOf[T]) testForms(t *testing.T) {
	for range 2 {
		for _, f := range k.forms {
			k.wantPut(t, f.thing, f.form)
			for _, more := range append(probe.Behind(), f.form) {
				k.wantGet(t, f.form+more, f.thing, len(f.form))
			}
		}
	}
}

// P10.1, P10.4: nodes.
func TestNodeForms(t *testing.T) { nodes.testForms(t) }

// P10.2, P10.4: nothing, each thing alone, all together.
func TestSetForms(t *testing.T) { sets.testForms(t) }

// P10.3, P10.4: what was told ahead, behind, both and neither.
func TestWeakForms(t *testing.T) { weaks.testForms(t) }

// P10.1 to P10.3: the chapter's examples.
func TestExamples(t *testing.T) {
	told := "\x00\x00\x00\x01\x00\x00\x01\xa4\x00\x00\x00\x01" + noughts(15) + "\x05" + noughts(7) + "\x05" + noughts(15) + "\x01" + noughts(7) + "\x07" + noughts(24)
	nodes.wantPut(t, file, told)
	nodes.wantGet(t, told+"and more", file, 84)
	nodes.wantNoGet(t, told[:83], api.ErrShort)
	nodes.wantNoGet(t, noughts(84), api.ErrForm)
	nodes.wantNoPut(t, api.Attrs{})
	nodes.wantNoPut(t, api.Attrs{Kind: api.KiFile, Mode: 4096})
	sets.wantPut(t, api.Set{}, noughts(24))
	seven := api.Set{HasMode: true, Mode: 7}
	sets.wantPut(t, seven, "\x00\x00\x00\x01\x00\x00\x00\x07"+noughts(20))
	sets.wantGet(t, "\x00\x00\x00\x01\x00\x00\x00\x07"+noughts(20), seven, 28)
	sets.wantNoPut(t, api.Set{Mode: 7})
	sets.wantNoPut(t, api.Set{ReadHow: 3})
	sets.wantNoGet(t, "\x00\x00\x00\x02", api.ErrForm)
	sets.wantNoGet(t, noughts(20)+"\x00\x00\x00\x03", api.ErrForm)
	weaks.wantPut(t, api.Weak{}, noughts(8))
	weaks.wantPut(t, api.Weak{HasBefore: true, Size: 5}, "\x00\x00\x00\x01"+noughts(7)+"\x05"+noughts(20))
	weaks.wantNoPut(t, api.Weak{Size: 5})
}

// kinds, modes, numbers, longs and moments: those that may be and those that may not, at their edges.
func kinds() []api.Kind {
	return []api.Kind{0, 1, 2, 3, 4, 5, 6, 7, 8, 9, 10, 13, 255, 256, 257, 258, 261, 65537, 1<<24 + 1, 1 << 31, 1<<31 + 1, 1<<31 + 5, most - 1, most}
}

func modes() []uint32 {
	return []uint32{0, 1, 7, 420, 511, 512, 4094, 4095, 4096, 4097, 4100, 8191, 1 << 16, 1<<16 + 420, 1 << 31, most - 1, most}
}

func numbers() []uint32 {
	return []uint32{0, 1, 2, 255, 256, 4095, 4096, 1<<31 - 1, 1 << 31, most - 1, most}
}

func longs() []uint64 {
	return []uint64{0, 1, 255, 256, 65536, most, most + 1, 1<<63 - 1, 1 << 63, mostLong - 1, mostLong}
}

func moments() []api.Time {
	var list []api.Time
	for _, nano := range []uint32{0, 1, 500000000, 999999998, 999999999, 1000000000, 1000000001, 1 << 30, 1<<31 - 1, 1 << 31, most - 1, most} {
		list = append(list, at(0, nano), at(1, nano), at(1<<31, nano), at(most, nano))
	}
	return list
}

// fields tells a thing again and again, each with one field set to one of the numbers at its edges.
func nodeFields(a api.Attrs) []api.Attrs {
	var list []api.Attrs
	each := func(set func(*api.Attrs)) {
		changed := a
		set(&changed)
		list = append(list, changed)
	}
	for _, k := range kinds() {
		each(func(a *api.Attrs) { a.Kind = k })
	}
	for _, n := range modes() {
		each(func(a *api.Attrs) { a.Mode = n })
	}
	for _, n := range numbers() {
		each(func(a *api.Attrs) { a.Links = n })
		each(func(a *api.Attrs) { a.User = n })
		each(func(a *api.Attrs) { a.Group = n })
	}
	for _, n := range longs() {
		each(func(a *api.Attrs) { a.Size = n })
		each(func(a *api.Attrs) { a.Used = n })
		each(func(a *api.Attrs) { a.ID = n })
	}
	for _, m := range moments() {
		each(func(a *api.Attrs) { a.Read = m })
		each(func(a *api.Attrs) { a.Write = m })
		each(func(a *api.Attrs) { a.Turn = m })
	}
	return list
}

// toldNode: as bytes, made otherwise than in the program.
func toldNode(a api.Attrs) string {
	var b bytes.Buffer
	binary.Write(&b, binary.BigEndian, struct {
		Front [5]uint32
		Sizes [2]uint64
		None  [2]uint32
		Longs [2]uint64
		Times [3]api.Time
	}{[5]uint32{uint32(a.Kind), a.Mode, a.Links, a.User, a.Group}, [2]uint64{a.Size, a.Used}, [2]uint32{}, [2]uint64{1, a.ID}, [3]api.Time{a.Read, a.Write, a.Turn}})
	return b.String()
}

// holds asks of each thing whether it is put and got as it may be, and with which bytes, and that these, if it may not be, are not got.
func (k kindOf[T]) holds(t *testing.T, told func(T) string, list []T) {
	t.Helper()
	for _, x := range list {
		if wrong := k.puts(x); wrong != "" {
			t.Error(wrong)
		}
		if k.mayBe(x) {
			k.wantPut(t, x, told(x))
		}
		if wrong := k.gets([]byte(told(x))); wrong != "" {
			t.Error(wrong)
		}
	}
}

// P10.1: each kind, Mode, number and point of time, of several nodes: those that may be told, and those that may not.
func TestNodeFields(t *testing.T) {
	for _, a := range []api.Attrs{file, dir, allNode, {}} {
		nodes.holds(t, toldNode, nodeFields(a))
	}
}

// P10.1: what may not be told, written out; of two faults there is one error.
func TestPutNoNode(t *testing.T) {
	for _, a := range []api.Attrs{
		{}, {Kind: 3}, {Kind: 4}, {Kind: 6}, {Kind: 257}, {Kind: most},
		{Mode: 420, Links: 1, Size: 5, Used: 5, ID: 7},
		{Kind: api.KiFile, Mode: 4096}, {Kind: api.KiDir, Mode: 4096}, {Kind: api.KiLink, Mode: most},
		{Kind: api.KiFile, Read: at(0, 1000000000)}, {Kind: api.KiFile, Write: at(0, 1000000000)}, {Kind: api.KiFile, Turn: at(0, 1000000000)},
		{Kind: api.KiDir, Read: at(most, most)}, {Kind: api.KiDir, Write: at(most, most)}, {Kind: api.KiDir, Turn: at(most, most)},
		{Mode: 4096, Read: at(0, most)}, {Kind: 3, Turn: at(0, most)}, {Kind: most, Mode: most, Read: at(most, most), Write: at(most, most), Turn: at(most, most)},
	} {
		nodes.wantNoPut(t, a)
	}
}

// P10.1: nothing, and fewer than 84 bytes of every length, whether they begin what may be told or not: that there are too few is told first. Their spare room does not count. (R2, R4)
func TestGetShort(t *testing.T) {
	wrong := [][]byte{make([]byte, 84), bytes.Repeat([]byte{255}, 84), probe.Filled(84)}
	for _, f := range nodes.forms {
		wrong = append(wrong, []byte(f.form))
	}
	for _, whole := range wrong {
		for n := range whole {
			nodes.wantNoGet(t, string(whole[:n]), api.ErrShort)
			if a, many, e := Get(whole[:n]); a != (api.Attrs{}) || many != 0 || e != api.ErrShort {
				t.Errorf("Get of the first %d of %x = %+v, %d, %d", n, whole, a, many, e)
			}
		}
	}
	for _, none := range [][]byte{nil, {}, make([]byte, 0, 84)} {
		if a, many, e := Get(none); a != (api.Attrs{}) || many != 0 || e != api.ErrShort {
			t.Errorf("Get of nothing = %+v, %d, %d", a, many, e)
		}
	}
}

// P10.1: bytes that none has, at each place alone: what is always 0, or 1, too.
func TestGetNoNode(t *testing.T) {
	for _, f := range nodes.forms {
		for place, c := range map[int]byte{0: 1, 1: 1, 2: 1, 3: 4, 4: 1, 5: 255, 6: 16, 36: 128, 39: 1, 40: 255, 43: 1, 44: 1, 47: 1, 50: 1, 51: 0, 64: 64, 72: 128, 80: 255} {
			b := []byte(f.form)
			b[place] = c
			nodes.wantNoGet(t, string(b), api.ErrForm)
			nodes.wantNoGet(t, string(b)+"behind", api.ErrForm)
		}
		b := []byte(f.form)
		b[51] = 2
		nodes.wantNoGet(t, string(b), api.ErrForm)
	}
}

// everyByte asks Get of each form with each byte at each place, whole and with a byte behind it.
func (k kindOf[T]) everyByte(t *testing.T) {
	for _, f := range k.forms {
		for b := range probe.EveryByte(f.form + "7") {
			for _, in := range [][]byte{b, b[:len(b)-1]} {
				if wrong := k.gets(in); wrong != "" {
					t.Fatal(wrong)
				}
			}
		}
	}
}

// P10.1, P10.4, P0.1: each of the 84 bytes changed alone in every way; what is got is put as the bytes that it had.
func TestEveryByteOfANode(t *testing.T) { nodes.everyByte(t) }

// P10.2, P10.4, P0.1: likewise.
func TestEveryByteOfASet(t *testing.T) { sets.everyByte(t) }

// P10.3, P10.4, P0.1: likewise.
func TestEveryByteOfAWeak(t *testing.T) { weaks.everyByte(t) }

// cut asks Get of each form cut short at every place: none of them is too great ahead of where it ends.
func (k kindOf[T]) cut(t *testing.T) {
	for _, f := range k.forms {
		whole := []byte(f.form)
		for n := range whole {
			k.wantNoGet(t, f.form[:n], api.ErrShort)
			if wrong := k.gets(whole[:n]); wrong != "" {
				t.Errorf("with spare room: %s", wrong)
			}
		}
	}
	for _, none := range [][]byte{nil, {}, make([]byte, 0, 200)} {
		if wrong := k.gets(none); wrong != "" {
			t.Error(wrong)
		}
	}
}

// P10.2: nothing, and every form cut short at every place.
func TestGetSetShort(t *testing.T) { sets.cut(t) }

// P10.3: likewise.
func TestGetWeakShort(t *testing.T) { weaks.cut(t) }

// hows: how a time is set: those that there are, and those that are too great.
func hows() []api.How { return []api.How{0, 1, 2, 3, 4, 256, 257, 258, 1 << 31, most - 1, most} }

// toldSet and toldWeak: as bytes, made otherwise than in the program, of what is had alone.
func toldSet(s api.Set) string {
	had := func(has bool, form string) string {
		if has {
			return yes + form
		}
		return no
	}
	how := func(how api.How, t api.Time) string {
		if how == 2 {
			return numForm(2) + numForm(t.Sec) + numForm(t.Nano)
		}
		return numForm(uint32(how))
	}
	return had(s.HasMode, numForm(s.Mode)) + had(s.HasUser, numForm(s.User)) + had(s.HasGroup, numForm(s.Group)) + had(s.HasSize, longForm(s.Size)) + how(s.ReadHow, s.Read) + how(s.WriteHow, s.Write)
}

func toldWeak(w api.Weak) string {
	b := no
	if w.HasBefore {
		b = yes + longForm(w.Size) + numForm(w.Write.Sec) + numForm(w.Write.Nano) + numForm(w.Turn.Sec) + numForm(w.Turn.Nano)
	}
	if w.HasAfter {
		return b + yes + toldNode(w.After)
	}
	return b + no
}

// setFields: like nodeFields, of what is to be set.
func setFields(s api.Set) []api.Set {
	var list []api.Set
	each := func(set func(*api.Set)) {
		changed := s
		set(&changed)
		list = append(list, changed)
	}
	for _, has := range []bool{false, true} {
		for _, n := range modes() {
			each(func(s *api.Set) { s.HasMode, s.Mode = has, n })
		}
		for _, n := range numbers() {
			each(func(s *api.Set) { s.HasUser, s.User = has, n })
			each(func(s *api.Set) { s.HasGroup, s.Group = has, n })
		}
		for _, n := range longs() {
			each(func(s *api.Set) { s.HasSize, s.Size = has, n })
		}
	}
	for _, how := range hows() {
		for _, m := range moments() {
			each(func(s *api.Set) { s.ReadHow, s.Read = how, m })
			each(func(s *api.Set) { s.WriteHow, s.Write = how, m })
		}
	}
	return list
}

// P10.2: each thing, had and not, at its edges, and each way a time is set, with a point of time and without, beside nothing and beside all.
func TestSetFields(t *testing.T) {
	for _, f := range []known[api.Set]{sets.forms[0], sets.forms[len(sets.forms)-1], sets.forms[len(sets.forms)-2]} {
		sets.holds(t, toldSet, setFields(f.thing))
	}
}

// P10.2: what is had and what is not, in every way there is, each beside each.
func TestSetOfAnyThings(t *testing.T) {
	var list []api.Set
	for which := range 16 {
		for _, readHow := range hows() {
			for _, writeHow := range hows() {
				s := api.Set{HasMode: which&1 > 0, HasUser: which&2 > 0, HasGroup: which&4 > 0, HasSize: which&8 > 0, ReadHow: readHow, WriteHow: writeHow}
				list = append(list, s)
				if s.HasMode {
					s.Mode = 420
				}
				if s.HasUser {
					s.User = 1000
				}
				if s.HasGroup {
					s.Group = 100
				}
				if s.HasSize {
					s.Size = 65536
				}
				list = append(list, s)
				if readHow == api.HowTo {
					s.Read = at(6, 7)
				}
				if writeHow == api.HowTo {
					s.Write = at(8, 9)
				}
				list = append(list, s)
			}
		}
	}
	sets.holds(t, toldSet, list)
}

// P10.2: what may not be set, written out: what is not had but is not zero, what is too great, points of time that may not be.
func TestPutNoSet(t *testing.T) {
	for _, s := range []api.Set{
		{Mode: 7}, {Mode: 4096}, {Mode: most}, {User: 1}, {User: most}, {Group: 1}, {Group: most}, {Size: 1}, {Size: most + 1}, {Size: mostLong},
		{Read: at(1, 0)}, {Read: at(0, 1)}, {Read: at(0, most)}, {Write: at(1, 0)}, {Write: at(0, 1)}, {Write: at(0, most)},
		{ReadHow: api.HowNow, Read: at(1, 0)}, {ReadHow: api.HowNow, Read: at(0, 1)}, {WriteHow: api.HowNow, Write: at(1, 0)}, {WriteHow: api.HowNow, Write: at(0, 1)},
		{ReadHow: 3}, {ReadHow: 3, Read: at(1, 1)}, {ReadHow: 258, Read: at(1, 1)}, {ReadHow: most}, {WriteHow: 3}, {WriteHow: 3, Write: at(1, 1)}, {WriteHow: most},
		{ReadHow: api.HowTo, Read: at(0, 1000000000)}, {ReadHow: api.HowTo, Read: at(0, most)}, {WriteHow: api.HowTo, Write: at(0, 1000000000)}, {WriteHow: api.HowTo, Write: at(0, most)},
		{HasMode: true, Mode: 4096}, {HasMode: true, Mode: most},
		{HasMode: true, Mode: 7, User: 1}, {HasUser: true, User: 7, Mode: 7}, {HasUser: true, Group: 1}, {HasGroup: true, Size: 1}, {HasSize: true, Group: 1},
		{ReadHow: api.HowTo, Write: at(1, 1)}, {WriteHow: api.HowTo, Read: at(1, 1)}, {ReadHow: 3, WriteHow: 3, Mode: 4096, Read: at(most, most)},
	} {
		sets.wantNoPut(t, s)
	}
}

// P10.2: whatever stands ahead of a fault, the fault is told, though nothing, or another fault, stands behind it; whatever the bytes are, those that end ahead of it are too few.
func TestGetNoSet(t *testing.T) {
	wrongTime := "\x01\x02\x03\x04\x3b\x9a\xca\x00"
	for front, fault := range map[string][]string{
		"":                                     neither(),
		yes:                                    {numForm(4096), numForm(4097), numForm(8191), numForm(1 << 16), numForm(1<<31 + 7), numForm(most)},
		no:                                     neither(),
		yes + numForm(4095):                    neither(),
		no + no:                                neither(),
		no + yes + numForm(most):               neither(),
		no + no + no:                           neither(),
		no + no + yes + numForm(most):          neither(),
		noughts(12):                            neither(),
		noughts(12) + yes + longForm(mostLong): {numForm(3), numForm(4), numForm(256), numForm(258), numForm(1<<31 + 2), numForm(most)},
		noughts(16):                            {numForm(3), numForm(4), numForm(256), numForm(258), numForm(1<<31 + 2), numForm(most)},
		noughts(20):                            {numForm(3), numForm(4), numForm(256), numForm(258), numForm(1<<31 + 2), numForm(most)},
		noughts(16) + numForm(1):               {numForm(3), numForm(most)},
		noughts(16) + numForm(2):               {wrongTime, numForm(0) + numForm(most)},
		noughts(16) + numForm(2) + longForm(7): {numForm(3), numForm(most)},
		noughts(20) + numForm(2):               {wrongTime, numForm(most) + numForm(most)},
		noughts(16) + numForm(2) + longForm(7) + numForm(2): {wrongTime},
	} {
		for _, wrong := range fault {
			for n := range len(front + wrong) {
				sets.wantNoGet(t, (front + wrong)[:n], api.ErrShort)
			}
			for _, more := range append(probe.Behind(), noughts(84), numForm(most)) {
				sets.wantNoGet(t, front+wrong+more, api.ErrForm)
			}
		}
	}
}

// weakFields: like nodeFields, of what was told ahead and behind.
func weakFields(w api.Weak) []api.Weak {
	var list []api.Weak
	each := func(set func(*api.Weak)) {
		changed := w
		set(&changed)
		list = append(list, changed)
	}
	for _, has := range []bool{false, true} {
		for _, n := range longs() {
			each(func(w *api.Weak) { w.HasBefore, w.Size = has, n })
		}
		for _, m := range moments() {
			each(func(w *api.Weak) { w.HasBefore, w.Write = has, m })
			each(func(w *api.Weak) { w.HasBefore, w.Turn = has, m })
		}
		for _, a := range slices.Concat(nodeFields(api.Attrs{}), nodeFields(dir), nodeFields(allNode)) {
			each(func(w *api.Weak) { w.HasAfter, w.After = has, a })
		}
	}
	return list
}

// P10.3: each thing, had and not, at its edges, beside nothing and beside all.
func TestWeakFields(t *testing.T) {
	for _, w := range []api.Weak{{}, {HasBefore: true}, {HasAfter: true, After: dir}, weaks.forms[len(weaks.forms)-1].thing, weaks.forms[len(weaks.forms)-2].thing} {
		weaks.holds(t, toldWeak, weakFields(w))
	}
}

// P10.3: what may not be told, written out: what is not had but is not zero, points of time that may not be, nodes that may not be told.
func TestPutNoWeak(t *testing.T) {
	for _, w := range []api.Weak{
		{Size: 5}, {Size: mostLong}, {Write: at(1, 0)}, {Write: at(0, 1)}, {Turn: at(1, 0)}, {Turn: at(0, 1)}, {Write: at(0, most)}, {Turn: at(0, most)},
		{After: dir}, {After: api.Attrs{ID: 1}}, {After: api.Attrs{Turn: at(0, 1)}}, {After: api.Attrs{Mode: 4096}}, {HasBefore: true, After: file}, {HasAfter: true, After: file, Size: 1},
		{HasBefore: true, Write: at(0, 1000000000)}, {HasBefore: true, Turn: at(0, 1000000000)}, {HasBefore: true, Write: at(most, most)}, {HasBefore: true, Turn: at(most, most)},
		{HasAfter: true}, {HasAfter: true, After: api.Attrs{Kind: 3}}, {HasAfter: true, After: api.Attrs{Kind: api.KiFile, Mode: 4096}}, {HasAfter: true, After: api.Attrs{Kind: api.KiDir, Read: at(0, 1000000000)}},
		{HasBefore: true, HasAfter: true}, {HasBefore: true, Turn: at(0, most), HasAfter: true, After: file},
	} {
		weaks.wantNoPut(t, w)
	}
}

// P10.3: which error is first: a fault, though nothing stands behind it; of what was told behind, that there is too little of it, though it may not be.
func TestGetNoWeak(t *testing.T) {
	wrongTime := "\x01\x02\x03\x04\x3b\x9a\xca\x00"
	for front, fault := range map[string][]string{
		"":                                      neither(),
		no:                                      neither(),
		yes + longForm(mostLong):                {wrongTime, numForm(0) + numForm(most)},
		yes + longForm(5) + longForm(999999999): {wrongTime, numForm(most) + numForm(most)},
		yes + longForm(5) + longForm(999999999) + longForm(7): neither(),
		no + yes:                {noughts(84), numForm(3) + noughts(80), bytesOf(dirHex)[:80] + numForm(1000000000), bytesOf(dirHex)[:51] + noughts(33)},
		yes + noughts(24) + yes: {noughts(84), strings.Repeat("\xff", 84), bytesOf(fileHex)[:4] + numForm(4096) + bytesOf(fileHex)[8:]},
		yes + longForm(mostLong) + longForm(999999999) + longForm(999999999) + yes: {noughts(84)},
	} {
		for _, wrong := range fault {
			for n := range len(front + wrong) {
				weaks.wantNoGet(t, (front + wrong)[:n], api.ErrShort)
			}
			for _, more := range append(probe.Behind(), noughts(84), numForm(most)) {
				weaks.wantNoGet(t, front+wrong+more, api.ErrForm)
			}
		}
	}
}

// P10.2, P10.3: two faults in one, and bytes that end in the middle of the second: the one in front tells.
func TestFirstFault(t *testing.T) {
	sets.wantNoGet(t, numForm(2)+numForm(2), api.ErrForm)
	sets.wantNoGet(t, yes+numForm(4096)+"\x00\x00", api.ErrForm)
	sets.wantNoGet(t, yes+numForm(4095)+"\x00\x00", api.ErrShort)
	sets.wantNoGet(t, yes+"\xff\xff\xff", api.ErrShort)
	sets.wantNoGet(t, noughts(16)+numForm(2)+numForm(most)+"\xff\xff\xff", api.ErrShort)
	sets.wantNoGet(t, noughts(16)+numForm(2)+numForm(0)+numForm(1000000000)+"\x00", api.ErrForm)
	weaks.wantNoGet(t, numForm(2)+"\x00", api.ErrForm)
	weaks.wantNoGet(t, yes+longForm(1)+numForm(0)+numForm(1000000000)+"\x00", api.ErrForm)
	weaks.wantNoGet(t, no+yes+numForm(3)+noughts(79), api.ErrShort)
	weaks.wantNoGet(t, no+yes+numForm(3)+noughts(80), api.ErrForm)
	weaks.wantNoGet(t, no+numForm(2)+noughts(79), api.ErrForm)
}

// R1: any bytes at all, of many lengths, end in an answer.
func TestAnyBytes(t *testing.T) {
	for n := range 130 {
		for _, b := range [][]byte{make([]byte, n), bytes.Repeat([]byte{255}, n), bytes.Repeat([]byte{0, 0, 0, 1}, n), bytes.Repeat([]byte{0, 0, 0, 2}, n), probe.Filled(n)} {
			for _, wrong := range []string{nodes.gets(b), sets.gets(b), weaks.gets(b)} {
				if wrong != "" {
					t.Error(wrong)
				}
			}
		}
	}
}

// R1: a fault of the program's own is no error that a call tells; it is not taken for an answer.
func TestOtherPanicsGoOn(t *testing.T) {
	for _, e := range []api.Errno{api.ErrArg, api.ErrShort, api.ErrForm} {
		if leftOff(e) != e {
			t.Errorf("leftOff(%d) = %d", e, leftOff(e))
		}
	}
	if leftOff(nil) != api.OK {
		t.Error("an error where nothing was left off")
	}
	for _, other := range []any{"text", 5, errors.New("other")} {
		func() {
			defer func() {
				if recover() != other {
					t.Errorf("%v did not go on", other)
				}
			}()
			leftOff(other)
		}()
	}
}

// staysHandedIn: R4: what is handed in is not changed, its spare room neither, whether a thing is told by it or not.
func (k kindOf[T]) staysHandedIn(t *testing.T) {
	for _, f := range k.forms {
		whole := f.form + "behind"
		for n := range len(whole) + 1 {
			in := []byte(whole)
			k.get(in[:n])
			if string(in) != whole {
				t.Errorf("Get%s of the first %d of %x left %x", k.name, n, whole, in)
			}
		}
	}
}

// sharesNothing: R4, R5: what Put answers is new memory, spare room too: it changes with no other answer, and nothing changes with it. Nothing is kept of what Get was handed.
func (k kindOf[T]) sharesNothing(t *testing.T) {
	for i, f := range k.forms {
		next := k.forms[(i+1)%len(k.forms)]
		first, _ := k.put(f.thing)
		second, _ := k.put(f.thing)
		other, _ := k.put(next.thing)
		probe.Scribble(first)
		if string(second) != f.form || string(other) != next.form {
			t.Errorf("%x, %x: changed with an answer", second, other)
		}
		probe.Scribble(second)
		if string(other) != next.form {
			t.Errorf("%x: changed with an answer", other)
		}
		in := []byte(f.form)
		x, n, _ := k.get(in)
		probe.Scribble(in)
		if x != f.thing || n != len(f.form) {
			t.Errorf("%+v, %d: changed with the bytes", x, n)
		}
		k.get(in)
		k.wantGet(t, f.form, f.thing, len(f.form))
		k.wantPut(t, f.thing, f.form)
	}
}

// R4.
func TestHandedInStays(t *testing.T) {
	nodes.staysHandedIn(t)
	sets.staysHandedIn(t)
	weaks.staysHandedIn(t)
}

// R4, R5.
func TestSharesNothing(t *testing.T) {
	nodes.sharesNothing(t)
	sets.sharesNothing(t)
	weaks.sharesNothing(t)
}

// anyNode, anySet and anyWeak: things of any bytes, those that may be among them.
func anyNode(b []byte) api.Attrs {
	a := walk{rest: slices.Concat(b, make([]byte, 68))}
	n := api.Attrs{Kind: api.Kind(a.number()), Mode: a.number(), Links: a.number(), User: a.number(), Group: a.number(), Size: a.long(), Used: a.long(), ID: a.long()}
	n.Read, n.Write, n.Turn = at(a.number(), a.number()), at(a.number(), a.number()), at(a.number(), a.number())
	return n
}

func anySet(b []byte, a api.Attrs) api.Set {
	has := func(place int) bool { return len(b) > place && b[place]&1 > 0 }
	return api.Set{HasMode: has(0), Mode: a.Mode, HasUser: has(1), User: a.User, HasGroup: has(2), Group: a.Group, HasSize: has(3), Size: a.Size, ReadHow: api.How(a.Kind), Read: a.Read, WriteHow: api.How(a.Links), Write: a.Write}
}

func anyWeak(b []byte, a api.Attrs) api.Weak {
	return api.Weak{HasBefore: len(b)&1 > 0, Size: a.Size, Write: a.Write, Turn: a.Turn, HasAfter: len(b)&2 > 0, After: a}
}

// P10.1 to P10.4, R1, R2: any bytes, any things.
func FuzzWhatFollows(f *testing.F) {
	for _, k := range nodes.forms {
		f.Add([]byte(k.form), []byte(k.form[:36]+k.form[52:]))
	}
	for _, k := range sets.forms {
		f.Add([]byte(k.form), []byte{})
		f.Add([]byte(k.form[:len(k.form)-1]), []byte(k.form))
	}
	for _, k := range weaks.forms {
		f.Add([]byte(k.form), []byte(k.form[4:]))
		f.Add([]byte(k.form[:len(k.form)-1]), []byte(k.form[8:]))
	}
	f.Fuzz(func(t *testing.T, b, thing []byte) {
		a := anyNode(thing)
		for _, wrong := range []string{nodes.gets(b), sets.gets(b), weaks.gets(b), nodes.puts(a), sets.puts(anySet(b, a)), weaks.puts(anyWeak(b, a))} {
			if wrong != "" {
				t.Fatal(wrong)
			}
		}
	})
}
