// Package octet is layer 1: rows of bytes, behind whose end there is nought after nought. See 01-octet.md.
package octet

import (
	"bytes"

	"sheafer/api"
)

// wide is how many bytes a number of 64 bits has.
const wide = 8

// Window answers the n bytes of b from the place from on.
func Window(b []byte, from uint64, n int) ([]byte, api.Errno) {
	return made(n, func(row []byte) {
		if from < uint64(len(b)) {
			put(row, 0, b[from:])
		}
	})
}

// Over answers b with x laid over it from the place at on.
func Over(b []byte, at uint64, x []byte) ([]byte, api.Errno) {
	if len(x) == 0 {
		return grown(b, len(b)), api.OK
	}
	if !fits(at, uint64(len(x))) || !fits(uint64(len(b))) {
		return nil, api.ErrLong
	}
	row := grown(b, max(len(b), int(at)+len(x)))
	put(row, int(at), x)
	return row, api.OK
}

// Ahead answers b as n bytes, with noughts ahead of it.
func Ahead(b []byte, n int) ([]byte, api.Errno) {
	if len(b) > n {
		return nil, api.ErrArg
	}
	return made(n, func(row []byte) { put(row, n-len(b), b) })
}

// Behind answers b as n bytes, with noughts behind it.
func Behind(b []byte, n int) ([]byte, api.Errno) {
	if len(b) > n {
		return nil, api.ErrArg
	}
	return made(n, func(row []byte) { put(row, 0, b) })
}

// Bare answers b without the noughts that it begins with.
func Bare(b []byte) []byte {
	first := 0
	for first < len(b) && b[first] == 0 {
		first++
	}
	return grown(b[first:], len(b)-first)
}

// Equal tells whether a and b are the same bytes, and as many.
func Equal(a, b []byte) bool {
	return bytes.Equal(a, b)
}

// Noughts answers how many bytes of b are noughts, and how many are not.
func Noughts(b []byte) (int, int) {
	noughts := 0
	for _, c := range b {
		if c == 0 {
			noughts++
		}
	}
	return noughts, len(b) - noughts
}

// Put64 answers the bytes of b, and behind them the eight of x, the highest first.
func Put64(b []byte, x uint64) []byte {
	number := make([]byte, wide)
	for i := range number {
		number[wide-1-i] = byte(x >> (8 * i))
	}
	row := grown(b, len(b)+wide)
	put(row, len(b), number)
	return row
}

// U64 answers the last eight bytes of b, or all if it has fewer, as a number, the highest first.
func U64(b []byte) uint64 {
	x := uint64(0)
	for _, c := range b[max(0, len(b)-wide):] {
		x = x<<8 | uint64(c)
	}
	return x
}

// made answers a row of n bytes that begin as noughts: lay says what becomes of them. It asks about n for all rows whose length is chosen by who calls.
func made(n int, lay func(row []byte)) ([]byte, api.Errno) {
	if n < 0 {
		return nil, api.ErrArg
	}
	if !fits(uint64(n)) {
		return nil, api.ErrLong
	}
	row := make([]byte, n)
	lay(row)
	return row, api.OK
}

// grown answers a copy of b that goes on with noughts up to n bytes, so that no answer shares memory with what was handed in.
func grown(b []byte, n int) []byte {
	row := make([]byte, n)
	copy(row, b)
	return row
}

// put lays the bytes of x over the row from the place at on. What has no place in the row is left out: a window may end ahead of what it shows.
func put(row []byte, at int, x []byte) {
places:
	for i, c := range x {
		if at+i >= len(row) {
			break places
		}
		row[at+i] = c
	}
}

// fits tells whether the lengths together are at most MaxRow. It takes them from what is left, since a sum of places may go round.
func fits(lengths ...uint64) bool {
	left := uint64(api.MaxRow)
	for _, n := range lengths {
		if n > left {
			return false
		}
		left -= n
	}
	return true
}
