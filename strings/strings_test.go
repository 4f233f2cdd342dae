package strings

import (
	"bytes"
	"fmt"
	"math"
	"slices"
	"strings"
	"testing"

	"wharfinger/api"
	"wharfinger/opaque"
	"wharfinger/probe"
)

// forms: texts, and how they are put, written out by hand; some of them have bytes that are no letters.
var forms = []struct{ text, put string }{
	{"", "\x00\x00\x00\x00"},
	{"a", "\x00\x00\x00\x01a\x00\x00\x00"},
	{"ab", "\x00\x00\x00\x02ab\x00\x00"},
	{"abc", "\x00\x00\x00\x03abc\x00"},
	{"abcd", "\x00\x00\x00\x04abcd"},
	{"abcde", "\x00\x00\x00\x05abcde\x00\x00\x00"},
	{"/a/b", "\x00\x00\x00\x04/a/b"},
	{"\x00", "\x00\x00\x00\x01\x00\x00\x00\x00"},
	{"\xff\x80\x00\xfe", "\x00\x00\x00\x04\xff\x80\x00\xfe"},
	{"\xc3\xa9", "\x00\x00\x00\x02\xc3\xa9\x00\x00"},
	{"\xc3", "\x00\x00\x00\x01\xc3\x00\x00\x00"},
	{"\xed\xa0\x80", "\x00\x00\x00\x03\xed\xa0\x80\x00"},
	{"\xef\xbf\xbd", "\x00\x00\x00\x03\xef\xbf\xbd\x00"},
}

// wantGet asks Get, and says what is wrong.
func wantGet(t *testing.T, b string, most int, want string, many int, err api.Errno) {
	t.Helper()
	if got, n, e := Get([]byte(b), most); got != want || n != many || e != err {
		t.Errorf("Get(%q, %d) = %q, %d, %d; want %q, %d, %d", b, most, got, n, e, want, many, err)
	}
}

// short: a text's length and its head, so that what is wrong with a long one can be read.
func short(s string) string { return fmt.Sprintf("%d bytes, %.20q", len(s), s) }

// wantStat asks Name and Path, and says what is wrong.
func wantStat(t *testing.T, s string, name, path api.Stat) {
	t.Helper()
	if st := Name(s); st != name {
		t.Errorf("Name(%s) = %d, want %d", short(s), st, name)
	}
	if st := Path(s); st != path {
		t.Errorf("Path(%s) = %d, want %d", short(s), st, path)
	}
}

// P3.1: Put.
func TestPut(t *testing.T) {
	for _, c := range forms {
		if b := Put(c.text); string(b) != c.put {
			t.Errorf("Put(%q) = %q, want %q", c.text, b, c.put)
		}
	}
}

// P3.1: Get, with anything behind, and with bounds from the edge on.
func TestGet(t *testing.T) {
	for _, c := range forms {
		for _, more := range probe.Behind() {
			for _, most := range []int{len(c.text), len(c.text) + 1, api.MaxName, math.MaxUint32, math.MaxInt} {
				wantGet(t, c.put+more, most, c.text, len(c.put), api.OK)
			}
		}
	}
}

// P3.1: a text above the bound is ErrLimit, and each is above one below 0.
func TestGetLimit(t *testing.T) {
	for _, c := range forms {
		for _, most := range []int{len(c.text) - 1, -1, -2, math.MinInt32, math.MinInt} {
			wantGet(t, c.put, most, "", 0, api.ErrLimit)
		}
	}
	wantGet(t, "\xff\xff\xff\xff", math.MaxUint32-1, "", 0, api.ErrLimit)
	wantGet(t, "\xff\xff\xff\xff", -1, "", 0, api.ErrLimit)
}

// P3.1: too few bytes, wherever they end; their spare room does not count.
func TestGetShort(t *testing.T) {
	for _, c := range forms {
		whole := []byte(c.put)
		for size := range len(whole) {
			if got, n, e := Get(whole[:size], 9); got != "" || n != 0 || e != api.ErrShort {
				t.Errorf("Get(%q, the first %d) = %q, %d, %d; want ErrShort", whole, size, got, n, e)
			}
		}
	}
	wantGet(t, "\xff\xff\xff\xffabcd", math.MaxInt, "", 0, api.ErrShort)
	if got, n, e := Get(nil, 9); got != "" || n != 0 || e != api.ErrShort {
		t.Errorf("Get(nil, 9) = %q, %d, %d", got, n, e)
	}
}

// P3.1: a byte of the padding that is not 0, at every place.
func TestGetForm(t *testing.T) {
	for _, c := range forms {
		for bad := range probe.Spoilt(c.put, opaque.Pad(len(c.text))) {
			for _, more := range probe.Behind() {
				wantGet(t, bad+more, 9, "", 0, api.ErrForm)
			}
		}
	}
}

// P3.1 and R2: the first error, where several apply.
func TestGetOrder(t *testing.T) {
	wantGet(t, "\x00\x00\x09", -1, "", 0, api.ErrShort)
	wantGet(t, "", math.MinInt, "", 0, api.ErrShort)
	wantGet(t, "\x00\x00\x00\x02a", 1, "", 0, api.ErrLimit)
	wantGet(t, "\x00\x00\x00\x02ab\x00\x01", 1, "", 0, api.ErrLimit)
	wantGet(t, "\x00\x00\x00\x01a\x01\x01", 1, "", 0, api.ErrShort)
}

// P3.2: what is written is not looked at, but for the bytes 0 and slash: any other text is a name, and a path.
func TestOrdinary(t *testing.T) {
	for _, s := range []string{"a", "ab", ".", "..", "...", " ", "a b", "-", "\\", "a.txt", "\n", "\x01", "\x7f", "\xff", "\x80", "\xc3", "\xc3\xa9", "\xed\xa0\x80", "\xc0\xaf", "\xc0\x80", "\xe0\x80\xaf", "\xe2\x88\x95", "\xef\xbc\x8f"} {
		wantStat(t, s, api.StOK, api.StOK)
	}
}

// P3.2: every byte alone.
func TestEveryByte(t *testing.T) {
	for x := range 256 {
		name, path := api.StOK, api.StOK
		if x == 0 {
			name, path = api.StInval, api.StInval
		}
		if x == '/' {
			name = api.StInval
		}
		wantStat(t, string([]byte{byte(x)}), name, path)
	}
}

// P3.2: an empty text is neither.
func TestEmpty(t *testing.T) { wantStat(t, "", api.StInval, api.StInval) }

// edges: lengths about those that a name and a path may have, and far above.
var edges = []int{1, 2, 3, 254, 255, 256, 257, 511, 512, 1023, 1024, 1025, 1026, 65536, 65537, 65536 + 255}

// long: what is answered to so many bytes that may all be.
func long(size, most int) api.Stat {
	if size > most {
		return api.StName
	}
	return api.StOK
}

// P3.2: up to 255 bytes of a name, up to 1024 of a path; bytes are counted, not letters.
func TestLengths(t *testing.T) {
	for _, size := range edges {
		for _, c := range []string{"n", "\xff", "\xc3\xa9"} {
			s := strings.Repeat(c, size)[:size]
			wantStat(t, s, long(size, 255), long(size, 1024))
		}
	}
}

// with: texts of so many bytes that have this one, at the first, a middle and the last place, about the edges, and at all of them.
func with(c string, size int) []string {
	all := []string{strings.Repeat(c, size)}
	for _, place := range []int{0, 1, size / 2, 254, 255, 256, 1023, 1024, 1025, size - 2, size - 1} {
		if place >= 0 && place < size {
			all = append(all, strings.Repeat("n", place)+c+strings.Repeat("n", size-place-1))
		}
	}
	return all
}

// P3.2: a byte 0 at any place is StInval, of a text that is too long as well.
func TestNought(t *testing.T) {
	for _, size := range edges {
		for _, s := range with("\x00", size) {
			wantStat(t, s, api.StInval, api.StInval)
		}
	}
}

// P3.2: a slash at any place is StInval of a name, of one that is too long as well; a path may have it.
func TestSlash(t *testing.T) {
	for _, size := range edges {
		for _, s := range with("/", size) {
			wantStat(t, s, api.StInval, long(size, 1024))
		}
	}
	for _, s := range []string{"/", "//", "/a/b", "a/", "a//b", "../..", "/.."} {
		wantStat(t, s, api.StInval, api.StOK)
	}
}

// P3.2: a byte 0 and a slash together, in both orders.
func TestNoughtAndSlash(t *testing.T) {
	for _, s := range []string{"\x00/", "/\x00", "a/\x00b", "a\x00/b"} {
		wantStat(t, s, api.StInval, api.StInval)
		wantStat(t, s+strings.Repeat("n", 1024), api.StInval, api.StInval)
	}
}

// follows says what is wrong, if something that follows of all texts does not hold of one. (P3.3, P0.1)
func follows(s string) string {
	name, path := Name(s), Path(s)
	if name == api.StOK && path != api.StOK {
		return "a name that is no path: " + short(s)
	}
	if path == api.StOK && !strings.Contains(s, "/") && len(s) <= api.MaxName && name != api.StOK {
		return "a path without slashes, not too long, that is no name: " + short(s)
	}
	if got, n, e := Get(Put(s), len(s)); got != s || n != len(Put(s)) || e != api.OK {
		return fmt.Sprintf("put and got: %s: %s, %d, %d", short(s), short(got), n, e)
	}
	return ""
}

// P3.3: of all texts of up to five bytes out of some, and of long ones that end with these.
func TestWhatFollows(t *testing.T) {
	texts := []string{""}
	for range 5 {
		for _, s := range slices.Clone(texts) {
			for _, c := range []string{"a", "/", "\x00", "\xff"} {
				texts = append(texts, s+c)
			}
		}
		slices.Sort(texts)
		texts = slices.Compact(texts)
	}
	for _, s := range texts {
		for _, head := range []int{0, 250, 251, 255, 256, 1019, 1024} {
			if wrong := follows(strings.Repeat("n", head) + s); wrong != "" {
				t.Fatal(wrong)
			}
		}
	}
}

// gotIsPut says what is wrong, if a text that is got of bytes was not put so. (P3.3, P0.1, R2)
func gotIsPut(b []byte, most int) string {
	got, n, e := Get(b, most)
	if e == api.OK && (len(got) > most || !bytes.Equal(Put(got), b[:n])) {
		return fmt.Sprintf("Get(%v, %d) = %q, %d, which is put as %v", b, most, got, n, Put(got))
	}
	if e != api.OK && (got != "" || n != 0) {
		return fmt.Sprintf("Get(%v, %d) = %q, %d beside %d", b, most, got, n, e)
	}
	return ""
}

// P3.3 and P0.1: what is got is put as the bytes that it had, at every byte of every place.
func TestGotIsPut(t *testing.T) {
	for _, c := range forms {
		for b := range probe.EveryByte(c.put + "behind") {
			for most := -1; most < 9; most++ {
				if wrong := gotIsPut(b, most); wrong != "" {
					t.Fatal(wrong)
				}
			}
		}
	}
}

// P3.3, R1, R2: any bytes, any number, any text.
func FuzzWhatFollows(f *testing.F) {
	for _, c := range forms {
		f.Add([]byte(c.put), len(c.text))
		f.Add([]byte(c.text), -1)
	}
	f.Add(bytes.Repeat([]byte("n"), 256), 256)
	f.Add(bytes.Repeat([]byte("/"), 1025), math.MinInt)
	f.Fuzz(func(t *testing.T, b []byte, most int) {
		if wrong := gotIsPut(b, most) + follows(string(b)); wrong != "" {
			t.Fatal(wrong)
		}
	})
}

// R4: what is handed in is not changed, its spare room neither.
func TestHandedInStays(t *testing.T) {
	for size := range 17 {
		room := []byte("\x00\x00\x00\x05abcde\x00\x00\x00behind..")
		was := bytes.Clone(room)
		Get(room[:size], 5)
		if !bytes.Equal(room, was) {
			t.Errorf("Get of %d bytes: %q, was %q", size, room, was)
		}
	}
}

// R4: a text that was got stays, whatever becomes of the bytes; what is put is new memory, spare room too.
func TestAnswersShareNothing(t *testing.T) {
	for _, c := range forms {
		in := []byte(c.put)
		got, _, _ := Get(in, 9)
		one, two := Put(c.text), Put(c.text)
		probe.Scribble(in, one)
		if got != c.text || string(two) != c.put || string(Put(c.text)) != c.put {
			t.Errorf("%q: %q, %q: an answer changed with something else", c.text, got, two)
		}
	}
}

// The flaws are asked in their order, and no further than to the first that is found; without any, all is well.
func TestFirst(t *testing.T) {
	told := ""
	say := func(name string, st api.Stat) flaw {
		return func(string) api.Stat { told += name; return st }
	}
	if st := first("s", say("a", api.StOK), say("b", api.StName), say("c", api.StInval)); st != api.StName || told != "ab" {
		t.Errorf("%d, asked %s", st, told)
	}
	if st := first("s"); st != api.StOK {
		t.Errorf("none: %d", st)
	}
}
