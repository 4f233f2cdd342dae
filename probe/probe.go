// Package probe makes what the layers' tests hand in: bytes that are nearly right, and what stands behind them. No layer calls it.
package probe

import "iter"

// Behind tells what may stand behind a thing in a message: noughts, other bytes, and a thing of its own.
func Behind() []string {
	return []string{"", "\x00", "7", "\x00\x00\x00\x00", "\xff\xff\xff\xff", "\x00\x00\x00\x01a\x00\x00\x00", "abcdefghijklmnopqrstuvwxyz"}
}

// EveryByte tells bytes again and again, each place with each byte.
func EveryByte(form string) iter.Seq[[]byte] {
	return func(yield func([]byte) bool) {
		for place := range len(form) {
			for x := range 256 {
				b := []byte(form)
				b[place] = byte(x)
				if !yield(b) {
					return
				}
			}
		}
	}
}

// Spoilt tells bytes whose last so many are noughts, again and again, one of these places with a byte that is not 0.
func Spoilt(form string, noughts int) iter.Seq[string] {
	return func(yield func(string) bool) {
		for place := len(form) - noughts; place < len(form); place++ {
			for _, x := range []byte{1, 2, '/', 127, 128, 255} {
				if !yield(form[:place] + string([]byte{x}) + form[place+1:]) {
					return
				}
			}
		}
	}
}

// Scribble writes over lists and their spare room, so that whoever shares them changes.
func Scribble[N uint8 | uint32](lists ...[]N) {
	for _, list := range lists {
		list = list[:cap(list)]
		for i := range list {
			list[i] = ^list[i]
		}
	}
}

// Filled tells so many bytes, none of them 0, so that noughts which stand beside them are seen.
func Filled(size int) []byte {
	b := make([]byte, size)
	for i := range b {
		b[i] = byte(i%255) + 1
	}
	return b
}
