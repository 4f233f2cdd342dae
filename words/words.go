// Package words is layer 1: numbers of four and eight bytes. See doc/01-words.md.
package words

import (
	"iter"

	"wharfinger/api"
)

// How many bytes a number of each kind has.
const (
	wordSize = 4
	longSize = 8
)

// number is one of either kind.
type number interface{ uint32 | uint64 }

// told tells the lowest bytes of a number, so many, the highest first.
func told(n uint64, many int) iter.Seq[byte] {
	return func(yield func(byte) bool) {
		for left := many; left > 0; left-- {
			if !yield(byte(n >> (8 * (left - 1)))) {
				return
			}
		}
	}
}

// put makes its list whole at once: an answer has no spare room that a caller could append into.
func put(n uint64, size int) []byte {
	b := make([]byte, 0, size)
	for x := range told(n, size) {
		b = append(b, x)
	}
	return b
}

// read leaves alone what stands behind the number: most messages go on there.
func read[N number](b []byte, size int) (N, api.Errno) {
	if len(b) < size {
		return 0, api.ErrShort
	}
	var n N
	for _, x := range b[:size] {
		n = n<<8 | N(x)
	}
	return n, api.OK
}

// Put: a number as four bytes, the highest first; Get: back. (P1.1)
func Put(n uint32) []byte { return put(uint64(n), wordSize) }

// Get: likewise.
func Get(b []byte) (uint32, api.Errno) { return read[uint32](b, wordSize) }

// PutLong: a number as eight bytes; GetLong: back. (P1.2)
func PutLong(n uint64) []byte { return put(n, longSize) }

// GetLong: likewise.
func GetLong(b []byte) (uint64, api.Errno) { return read[uint64](b, longSize) }

// PutYes: yes or no, as a number; GetYes: back. (P1.3)
func PutYes(b bool) []byte {
	if b {
		return Put(1)
	}
	return Put(0)
}

// GetYes refuses what is above 1, so that yes has one form of bytes only.
func GetYes(b []byte) (bool, api.Errno) {
	n, e := Get(b)
	if e != api.OK {
		return false, e
	}
	if n > 1 {
		return false, api.ErrForm
	}
	return n == 1, api.OK
}
