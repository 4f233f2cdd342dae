package probe

import "testing"

// Each place is gone through with each byte, and nothing else changes; what was told stays.
func TestEveryByte(t *testing.T) {
	form := "\x00ab"
	seen := map[string]int{}
	for b := range EveryByte(form) {
		seen[string(b)]++
		Scribble(b)
	}
	if len(seen) != 3*255+1 || seen[form] != 3 {
		t.Errorf("%d told, %d times as it was", len(seen), seen[form])
	}
	for range EveryByte(form) {
		break
	}
}

// One place of the last ones is not 0, each in its turn.
func TestSpoilt(t *testing.T) {
	seen := map[string]int{}
	for b := range Spoilt("ab\x00\x00", 2) {
		if len(b) != 4 || b[:2] != "ab" || (b[2] == 0) == (b[3] == 0) {
			t.Errorf("%q", b)
		}
		seen[b]++
	}
	if len(seen) != 12 {
		t.Errorf("%d told", len(seen))
	}
	for b := range Spoilt("abcd", 0) {
		t.Errorf("%q, without noughts", b)
	}
	for range Spoilt("\x00", 1) {
		break
	}
}

// The spare room is written over too.
func TestScribble(t *testing.T) {
	room := []byte{0, 1, 2}
	Scribble(room[:1], nil)
	if room[0] != 255 || room[1] != 254 || room[2] != 253 {
		t.Errorf("%v", room)
	}
	numbers := []uint32{0, 1}
	Scribble(numbers[:0])
	if numbers[0] != 1<<32-1 || numbers[1] != 1<<32-2 {
		t.Errorf("%v", numbers)
	}
}

// None of them is 0, and those beside each other differ.
func TestFilled(t *testing.T) {
	b := Filled(600)
	for i, x := range b {
		if x == 0 || i > 0 && x == b[i-1] {
			t.Fatalf("%d: %d", i, x)
		}
	}
	if len(b) != 600 || len(Filled(0)) != 0 {
		t.Errorf("%d, %d", len(b), len(Filled(0)))
	}
}
