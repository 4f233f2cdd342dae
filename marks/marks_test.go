package marks

import (
	"bytes"
	"fmt"
	"math"
	"slices"
	"testing"

	"wharfinger/api"
	"wharfinger/probe"
	"wharfinger/words"
)

// forms: messages, and fragments that have them, written out by hand; a message may be cut in many ways, and its last fragment may be empty.
var forms = []struct{ message, put string }{
	{"", "\x80\x00\x00\x00"},
	{"a", "\x80\x00\x00\x01a"},
	{"a", "\x00\x00\x00\x01a\x80\x00\x00\x00"},
	{"ab", "\x80\x00\x00\x02ab"},
	{"ab", "\x00\x00\x00\x01a\x80\x00\x00\x01b"},
	{"ab", "\x00\x00\x00\x01a\x00\x00\x00\x01b\x80\x00\x00\x00"},
	{"abc", "\x00\x00\x00\x02ab\x80\x00\x00\x01c"},
	{"abc", "\x00\x00\x00\x01a\x80\x00\x00\x02bc"},
	{"abcde", "\x00\x00\x00\x03abc\x00\x00\x00\x01d\x80\x00\x00\x01e"},
	{"\x00\x00\x00\x00", "\x80\x00\x00\x04\x00\x00\x00\x00"},
	{"\x80\x00\x00\x01\xff\x00", "\x00\x00\x00\x05\x80\x00\x00\x01\xff\x80\x00\x00\x01\x00"},
}

// bad: bytes that no more bytes make right, and what is answered to them.
var bad = []struct {
	put string
	err api.Errno
}{
	{"\x00\x00\x00\x00", api.ErrForm},
	{"\x00\x00\x00\x01a\x00\x00\x00\x00", api.ErrForm},
	{"\x00\x00\x00\x01a\x00\x00\x00\x01b\x00\x00\x00\x00", api.ErrForm},
	{"\x80\x01\x00\x01", api.ErrLimit},
	{"\x00\x01\x00\x01", api.ErrLimit},
	{"\xff\xff\xff\xff", api.ErrLimit},
	{"\x7f\xff\xff\xff", api.ErrLimit},
	{"\x00\x00\x00\x01a\x80\x01\x00\x00", api.ErrLimit},
	{"\x00\x00\x00\x01a\x00\x01\x00\x00", api.ErrLimit},
	{"\x00\x00\x00\x01a\xff\xff\xff\xff", api.ErrLimit},
	{"\x00\x00\x00\x01a\x7f\xff\xff\xff", api.ErrLimit},
	{"\x00\x00\x00\x01a\x00\x00\x00\x02bc\x80\x00\xff\xfe", api.ErrLimit},
}

// edges: lengths of messages about those of one, of two and of three bytes of a number; the last one is the greatest that may be.
var edges = []int{0, 1, 2, 3, 127, 128, 255, 256, 257, 32768, 65534, 65535, api.MaxMessage}

// short: how many bytes there are, and their head, so that what is wrong with many can be read.
func short(b []byte) string { return fmt.Sprintf("%d bytes, %.20q", len(b), b) }

// wantGet asks Get, and says what is wrong.
func wantGet(t *testing.T, b, want string, many int, err api.Errno) {
	t.Helper()
	if got, n, e := Get([]byte(b)); string(got) != want || n != many || e != err {
		t.Errorf("Get(%s) = %s, %d, %d; want %s, %d, %d", short([]byte(b)), short(got), n, e, short([]byte(want)), many, err)
	}
}

// wantAll asks All, and says what is wrong.
func wantAll(t *testing.T, b string, many int, err api.Errno, want ...string) {
	t.Helper()
	got, n, e := All([]byte(b))
	same := slices.EqualFunc(got, want, func(m []byte, w string) bool { return string(m) == w })
	if !same || n != many || e != err {
		t.Errorf("All(%s) = %.90q, %d, %d; want %.90q, %d, %d", short([]byte(b)), got, n, e, want, many, err)
	}
}

// wantBytes says what is wrong with bytes that were told.
func wantBytes(t *testing.T, call string, b []byte, e api.Errno, want string) {
	t.Helper()
	if string(b) != want || e != api.OK {
		t.Errorf("%s = %s, %d; want %s", call, short(b), e, short([]byte(want)))
	}
}

// P4.1: one fragment, the last one, of all of it.
func TestPut(t *testing.T) {
	for m, want := range map[string]string{
		"":                 "\x80\x00\x00\x00",
		"a":                "\x80\x00\x00\x01a",
		"ab":               "\x80\x00\x00\x02ab",
		"abcde":            "\x80\x00\x00\x05abcde",
		"\x00":             "\x80\x00\x00\x01\x00",
		"\x80\x00\x00\x00": "\x80\x00\x00\x04\x80\x00\x00\x00",
	} {
		b, e := Put([]byte(m))
		wantBytes(t, fmt.Sprintf("Put(%q)", m), b, e, want)
	}
}

// P4.1: numbers of more than one byte, and the greatest message that may be.
func TestPutLongOnes(t *testing.T) {
	for size, ahead := range map[int]string{255: "\x80\x00\x00\xff", 256: "\x80\x00\x01\x00", 258: "\x80\x00\x01\x02", 65535: "\x80\x00\xff\xff", 65536: "\x80\x01\x00\x00"} {
		m := probe.Filled(size)
		b, e := Put(m)
		wantBytes(t, fmt.Sprintf("Put(%d bytes)", size), b, e, ahead+string(m))
	}
}

// P4.1, P4.2: a message of more than MaxMessage bytes, however it is cut.
func TestPutLimit(t *testing.T) {
	for _, many := range []int{api.MaxMessage + 1, api.MaxMessage + 2, 2 * api.MaxMessage, 1 << 24} {
		m := probe.Filled(many)
		if b, e := Put(m); b != nil || e != api.ErrLimit {
			t.Errorf("Put(%d bytes) = %s, %d; want ErrLimit", many, short(b), e)
		}
		for _, size := range []int{1, 2, 9, api.MaxMessage - 1, api.MaxMessage} {
			if b, e := Cut(m, size); b != nil || e != api.ErrLimit {
				t.Errorf("Cut(%d bytes, %d) = %s, %d; want ErrLimit", many, size, short(b), e)
			}
		}
	}
}

// P4.2: fragments of so many bytes, the last one of what is left.
func TestCut(t *testing.T) {
	for _, c := range []struct {
		message string
		size    int
		want    string
	}{
		{"", 1, "\x80\x00\x00\x00"},
		{"", 5, "\x80\x00\x00\x00"},
		{"", api.MaxMessage, "\x80\x00\x00\x00"},
		{"a", 1, "\x80\x00\x00\x01a"},
		{"a", 2, "\x80\x00\x00\x01a"},
		{"ab", 1, "\x00\x00\x00\x01a\x80\x00\x00\x01b"},
		{"ab", 2, "\x80\x00\x00\x02ab"},
		{"ab", 3, "\x80\x00\x00\x02ab"},
		{"abc", 1, "\x00\x00\x00\x01a\x00\x00\x00\x01b\x80\x00\x00\x01c"},
		{"abc", 2, "\x00\x00\x00\x02ab\x80\x00\x00\x01c"},
		{"abc", 3, "\x80\x00\x00\x03abc"},
		{"abcd", 2, "\x00\x00\x00\x02ab\x80\x00\x00\x02cd"},
		{"abcde", 2, "\x00\x00\x00\x02ab\x00\x00\x00\x02cd\x80\x00\x00\x01e"},
		{"abcdef", 3, "\x00\x00\x00\x03abc\x80\x00\x00\x03def"},
		{"abcdef", api.MaxMessage, "\x80\x00\x00\x06abcdef"},
	} {
		b, e := Cut([]byte(c.message), c.size)
		wantBytes(t, fmt.Sprintf("Cut(%q, %d)", c.message, c.size), b, e, c.want)
	}
}

// P4.2: great messages, cut about their own length and by the greatest size.
func TestCutLongOnes(t *testing.T) {
	for _, c := range []struct {
		many, size  int
		first, last string
	}{
		{300, 299, "\x00\x00\x01\x2b", "\x80\x00\x00\x01"},
		{300, 300, "", "\x80\x00\x01\x2c"},
		{300, 301, "", "\x80\x00\x01\x2c"},
		{65535, 65535, "", "\x80\x00\xff\xff"},
		{65535, 65536, "", "\x80\x00\xff\xff"},
		{65536, 32768, "\x00\x00\x80\x00", "\x80\x00\x80\x00"},
		{65536, 65534, "\x00\x00\xff\xfe", "\x80\x00\x00\x02"},
		{65536, 65535, "\x00\x00\xff\xff", "\x80\x00\x00\x01"},
		{65536, 65536, "", "\x80\x01\x00\x00"},
	} {
		m := string(probe.Filled(c.many))
		want := c.last + m
		if c.first != "" {
			want = c.first + m[:c.size] + c.last + m[c.size:]
		}
		b, e := Cut([]byte(m), c.size)
		wantBytes(t, fmt.Sprintf("Cut(%d bytes, %d)", c.many, c.size), b, e, want)
	}
}

// P4.2: the greatest message, byte by byte.
func TestCutBytes(t *testing.T) {
	m := probe.Filled(api.MaxMessage)
	b, e := Cut(m, 1)
	if len(b) != 5*api.MaxMessage || e != api.OK {
		t.Fatalf("%s, %d", short(b), e)
	}
	for i, x := range m {
		want := []byte{0, 0, 0, 1, x}
		if i == len(m)-1 {
			want[0] = 0x80
		}
		if !bytes.Equal(b[5*i:5*i+5], want) {
			t.Fatalf("fragment %d: %v, want %v", i, b[5*i:5*i+5], want)
		}
	}
}

// P4.2, R2: a size that may not be, ahead of a message that is too great.
func TestCutArg(t *testing.T) {
	for _, size := range []int{0, -1, -2, math.MinInt32, math.MinInt, api.MaxMessage + 1, api.MaxMessage + 2, 1 << 31, math.MaxUint32 + 2, math.MaxInt - 1, math.MaxInt} {
		for _, many := range []int{0, 1, 9, api.MaxMessage, api.MaxMessage + 1} {
			if b, e := Cut(make([]byte, many), size); b != nil || e != api.ErrArg {
				t.Errorf("Cut(%d bytes, %d) = %s, %d; want ErrArg", many, size, short(b), e)
			}
		}
	}
}

// P4.3: a message, and how many bytes its fragments have; P4.5: what stands behind it makes no difference.
func TestGet(t *testing.T) {
	for _, c := range forms {
		for _, more := range probe.Behind() {
			wantGet(t, c.put+more, c.message, len(c.put), api.OK)
		}
		for _, d := range bad {
			wantGet(t, c.put+d.put, c.message, len(c.put), api.OK)
		}
	}
}

// P4.3: bytes that end too early, wherever they do; their spare room does not count.
func TestGetShort(t *testing.T) {
	for _, c := range forms {
		whole := []byte(c.put)
		for size := range len(whole) {
			if got, n, e := Get(whole[:size]); got != nil || n != 0 || e != api.ErrShort {
				t.Errorf("Get(%q, the first %d) = %q, %d, %d; want ErrShort", whole, size, got, n, e)
			}
		}
	}
	wantGet(t, "\x00\x00\x00\x01a", "", 0, api.ErrShort)
	wantGet(t, "\x00\x00\x00\x01a\x00\x00\x00", "", 0, api.ErrShort)
	wantGet(t, "\x00\x00\x00\x01a\x80\x00\xff\xffb", "", 0, api.ErrShort)
	wantGet(t, "\x80\x01\x00\x00", "", 0, api.ErrShort)
	wantGet(t, "\x00\x01\x00\x00", "", 0, api.ErrShort)
	if got, n, e := Get(nil); got != nil || n != 0 || e != api.ErrShort {
		t.Errorf("Get(nil) = %q, %d, %d; want ErrShort", got, n, e)
	}
}

// P4.3: bytes that may not be, whatever stands behind them; as long as they are cut, they may still come right.
func TestGetBad(t *testing.T) {
	for _, c := range bad {
		for _, more := range append(probe.Behind(), "\x80\x00\x00\x00", string(make([]byte, api.MaxMessage+1))) {
			wantGet(t, c.put+more, "", 0, c.err)
		}
		for size := range len(c.put) {
			wantGet(t, c.put[:size], "", 0, api.ErrShort)
		}
	}
}

// P4.3: fragments of MaxMessage bytes together may be, the numbers ahead of them not counted; one byte more may not, whether it is there or not.
func TestGetLimit(t *testing.T) {
	for _, size := range []int{1, 2, 255, 32768, 65535, api.MaxMessage} {
		m := string(probe.Filled(api.MaxMessage))
		whole, _ := Cut([]byte(m), size)
		wantGet(t, string(whole), m, len(whole), api.OK)
		ends := len(whole) - ((api.MaxMessage-1)%size + 1) - 4
		open := bytes.Clone(whole)
		open[ends] = 0
		wantGet(t, string(open), "", 0, api.ErrShort)
		wantGet(t, string(open)+"\x80\x00\x00\x00", m, len(whole)+4, api.OK)
		for _, one := range []string{"\x80\x00\x00\x01", "\x00\x00\x00\x01", "\x80\x00\x00\x01z", "\x00\x00\x00\x01z", "\xff\xff\xff\xff"} {
			wantGet(t, string(open)+one, "", 0, api.ErrLimit)
		}
		wantGet(t, string(open)+"\x00\x00\x00\x00", "", 0, api.ErrForm)
	}
}

// P4.3: each of the lowest 31 bits counts, with the highest one and without it.
func TestGetBits(t *testing.T) {
	for bit := range 31 {
		want := api.ErrShort
		if 1<<bit > api.MaxMessage {
			want = api.ErrLimit
		}
		for _, mark := range []uint32{1 << bit, 1<<bit | 1<<31} {
			wantGet(t, string(words.Put(mark)), "", 0, want)
		}
	}
}

// P4.3, R2: fragment by fragment: the error of an earlier one, ahead of what is wrong with a later one, and of one the first that the chapter names.
func TestGetOrder(t *testing.T) {
	wantGet(t, "\x00\x00\x00\x00\x80\x01\x00\x01", "", 0, api.ErrForm)
	wantGet(t, "\x80\x01\x00\x01\x00\x00\x00\x00", "", 0, api.ErrLimit)
	wantGet(t, "\x00\x00\x00\x01a\x00\x00\x00\x00\xff", "", 0, api.ErrForm)
	wantGet(t, "\x00\x00\x00\x08a\x00\x00\x00\x00", "", 0, api.ErrShort)
	wantGet(t, "\x80\x01\x00\x01a", "", 0, api.ErrLimit)
	wantGet(t, "\xff\xff\xff", "", 0, api.ErrShort)
}

// P4.4: several messages, ended by nothing, and by a part of one, wherever that ends.
func TestAll(t *testing.T) {
	for _, c := range forms {
		for _, d := range forms {
			for size := range len(d.put) {
				wantAll(t, d.put[:size], 0, api.OK)
				wantAll(t, c.put+d.put[:size], len(c.put), api.OK, c.message)
			}
			two := c.put + d.put
			wantAll(t, two, len(two), api.OK, c.message, d.message)
			wantAll(t, two+c.put, len(two+c.put), api.OK, c.message, d.message, c.message)
		}
	}
	wantAll(t, "", 0, api.OK)
}

// P4.4: messages and their number are told with an error that is not ErrShort; nothing behind it is looked at.
func TestAllBad(t *testing.T) {
	for _, c := range bad {
		for _, more := range append(probe.Behind(), "\x80\x00\x00\x01a") {
			wantAll(t, c.put+more, 0, c.err)
			for _, d := range forms {
				wantAll(t, d.put+c.put+more, len(d.put), c.err, d.message)
				wantAll(t, d.put+"\x80\x00\x00\x01z"+c.put+more, len(d.put)+5, c.err, d.message, "z")
			}
		}
		for size := range len(c.put) {
			wantAll(t, "\x80\x00\x00\x01z"+c.put[:size], 5, api.OK, "z")
		}
	}
}

// P4.4: many messages, and great ones, whose bytes together are above MaxMessage.
func TestAllMany(t *testing.T) {
	b := bytes.Repeat([]byte("\x80\x00\x00\x00"), api.MaxMessage)
	if got, n, e := All(b); len(got) != api.MaxMessage || n != len(b) || e != api.OK {
		t.Errorf("%d empty ones: %d, %d, %d", api.MaxMessage, len(got), n, e)
	}
	m := probe.Filled(api.MaxMessage)
	whole, _ := Put(m)
	wantAll(t, string(whole)+string(whole)+string(whole), 3*len(whole), api.OK, string(m), string(m), string(m))
}

// Whoever has heard enough may go: nothing is told behind that.
func TestMessagesStop(t *testing.T) {
	told := 0
	for range messages([]byte("\x80\x00\x00\x01a\x80\x00\x00\x01b")) {
		told++
		break
	}
	if told != 1 {
		t.Errorf("%d told", told)
	}
}

// P4.5, P0.1: however a message is cut, it is got, whatever stands behind it.
func TestCutIsGot(t *testing.T) {
	for _, many := range edges {
		m := probe.Filled(many)
		for _, size := range []int{1, 2, 3, 7, 255, 256, many / 2, many - 1, many, many + 1, api.MaxMessage} {
			if size < 1 || size > api.MaxMessage {
				continue
			}
			b, e := Cut(m, size)
			if e != api.OK {
				t.Fatalf("Cut(%d bytes, %d): %d", many, size, e)
			}
			for _, more := range []string{"", "\x00\x00\x00\x00", "\xff\xff\xff\xffbehind"} {
				wantGet(t, string(b)+more, string(m), len(b), api.OK)
			}
		}
		b, _ := Put(m)
		wantGet(t, string(b), string(m), len(b), api.OK)
	}
}

// follows says what is wrong, if something that follows of all bytes does not hold of some. (P4.5, R1, R2)
func follows(b []byte, size int) string {
	all, n, e := All(b)
	if n < 0 || n > len(b) || e == api.ErrShort {
		return fmt.Sprintf("All(%v) = %v, %d, %d", b, all, n, e)
	}
	place := 0
	for _, m := range all {
		got, k, e := Get(b[place:])
		if !bytes.Equal(got, m) || k < 4+len(m) || e != api.OK {
			return fmt.Sprintf("Get(%v) = %v, %d, %d; All has %v", b[place:], got, k, e, m)
		}
		place += k
	}
	got, k, next := Get(b[place:])
	if next == api.ErrShort {
		next = api.OK
	} else if next == api.OK {
		return fmt.Sprintf("All(%v) has %d bytes, but a message stands behind them", b, n)
	}
	if place != n || next != e || got != nil || k != 0 {
		return fmt.Sprintf("All(%v) = %v, %d, %d; Get of the next one: %v, %d, %d", b, all, n, e, got, k, next)
	}
	return fewer(b, all, n, e, size)
}

// fewer says what is wrong, if the first so many bytes make other messages than all of them.
func fewer(b []byte, all [][]byte, n int, e api.Errno, size int) string {
	size = max(0, min(size, len(b)))
	some, k, before := All(b[:size])
	same := len(some) <= len(all) && slices.EqualFunc(some, all[:len(some)], bytes.Equal)
	if !same || k > n || before != api.OK && (before != e || k != n || len(some) != len(all)) {
		return fmt.Sprintf("All(%v) = %v, %d, %d; of the first %d: %v, %d, %d", b, all, n, e, size, some, k, before)
	}
	if n <= size && (k != n || len(some) != len(all)) {
		return fmt.Sprintf("All(%v) = %v, %d, %d; the first %d have them all, but: %v, %d", b, all, n, e, size, some, k)
	}
	return ""
}

// P4.5: more bytes only make more messages: of all bytes that differ at one place from some, cut at every place.
func TestWhatFollows(t *testing.T) {
	for _, form := range []string{
		"\x80\x00\x00\x01a\x00\x00\x00\x01b\x80\x00\x00\x01c",
		"\x00\x00\x00\x01a\x80\x00\x00\x00\x80\x00\x00\x00",
		"\x80\x00\x00\x00\x80\x00\x00\x01\x00\x00\x00\x00\x01z",
	} {
		for b := range probe.EveryByte(form) {
			for size := range len(b) + 1 {
				if wrong := follows(b, size); wrong != "" {
					t.Fatal(wrong)
				}
			}
		}
	}
}

// P4.5, R1, R2: any bytes, cut anywhere; any message, any size.
func FuzzWhatFollows(f *testing.F) {
	for _, c := range forms {
		f.Add([]byte(c.put+c.put), len(c.put)+2)
	}
	for _, c := range bad {
		f.Add([]byte(forms[4].put+c.put), 10)
	}
	f.Add([]byte("ab"), math.MinInt)
	f.Add([]byte("ab"), math.MaxInt)
	f.Fuzz(func(t *testing.T, b []byte, size int) {
		if wrong := follows(b, size); wrong != "" {
			t.Fatal(wrong)
		}
		cut, e := Cut(b, size)
		if e != api.OK {
			return
		}
		if got, n, e := Get(cut); !bytes.Equal(got, b) || n != len(cut) || e != api.OK {
			t.Fatalf("Get(Cut(%v, %d)) = %v, %d, %d", b, size, got, n, e)
		}
	})
}

// asked: every call that is handed bytes, with the lists that it answers.
var asked = map[string]func(b []byte) [][]byte{
	"Put": func(b []byte) [][]byte { got, _ := Put(b); return [][]byte{got} },
	"Cut": func(b []byte) [][]byte { got, _ := Cut(b, 3); return [][]byte{got} },
	"one": func(b []byte) [][]byte { got, _ := Cut(b, 99); return [][]byte{got} },
	"Get": func(b []byte) [][]byte { got, _, _ := Get(b); return [][]byte{got} },
	"All": func(b []byte) [][]byte { got, _, _ := All(b); return got },
}

// handed: bytes that every call does something with: an empty message, one of a fragment, and ones of several.
const handed = "\x80\x00\x00\x02ab\x80\x00\x00\x00\x00\x00\x00\x01c\x80\x00\x00\x02de\x80\x00\x00\x01f\x00\x00\x00\x01g\x80\x00\x00\x00"

// R4: what is handed in is not changed, its spare room neither.
func TestHandedInStays(t *testing.T) {
	for name, ask := range asked {
		for from := range len(handed) {
			for to := from; to <= len(handed); to++ {
				room := []byte(handed + "behind")
				ask(room[from:to])
				if string(room) != handed+"behind" {
					t.Errorf("%s of the bytes %d to %d: %q", name, from, to, room)
				}
			}
		}
	}
}

// R4: an answer is new memory, spare room too: it shares none with what was handed in, nor with another answer, nor do two lists of one.
func TestAnswersShareNothing(t *testing.T) {
	for name, ask := range asked {
		for size := range len(handed) + 1 {
			in := []byte(handed)
			want := fmt.Sprintf("%q", ask([]byte(handed[:size])))
			one, two := ask(in[:size]), ask(in[:size])
			probe.Scribble(one...)
			if string(in) != handed || fmt.Sprintf("%q", two) != want || fmt.Sprintf("%q", ask(in[:size])) != want {
				t.Errorf("%s of %d: an answer that was written over changed something else", name, size)
			}
			probe.Scribble(in)
			if fmt.Sprintf("%q", two) != want {
				t.Errorf("%s of %d: the answer changed with what was handed in", name, size)
			}
			for i := range two {
				others := func() string { return fmt.Sprintf("%q", slices.Delete(slices.Clone(two), i, i+1)) }
				was := others()
				probe.Scribble(two[i])
				if others() != was {
					t.Errorf("%s of %d: list %d shares memory with another one", name, size, i)
				}
			}
		}
	}
}

// R4: no list is as an empty one.
func TestNone(t *testing.T) {
	for _, none := range [][]byte{nil, {}} {
		b, e := Put(none)
		wantBytes(t, "Put(none)", b, e, "\x80\x00\x00\x00")
		b, e = Cut(none, 5)
		wantBytes(t, "Cut(none, 5)", b, e, "\x80\x00\x00\x00")
		if got, n, e := Get(none); len(got) != 0 || n != 0 || e != api.ErrShort {
			t.Errorf("Get(none) = %v, %d, %d", got, n, e)
		}
		if got, n, e := All(none); len(got) != 0 || n != 0 || e != api.OK {
			t.Errorf("All(none) = %v, %d, %d", got, n, e)
		}
	}
}
