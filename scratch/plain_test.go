package scratch_test

import (
	"encoding/binary"
	"math/big"
	"slices"

	"sheafer/api"
)

// What the chapter says, told once more.
const (
	mostWords = 64
	mostBytes = 1024
	farthest  = 16
)

// plain is a scratch in another way, against which the package's answers are held: its words, the topmost first; its bytes that were laid, by their places; how many times 32 bytes its memory has.
type plain struct {
	words []api.Word
	bytes map[uint64]byte
	rows  uint64
}

// plainOf is what s is in that way.
func plainOf(s api.Scratch) *plain {
	p := &plain{bytes: map[uint64]byte{}, rows: uint64(len(s.Memory) / 32)}
	for _, w := range s.Stack {
		p.words = slices.Insert(p.words, 0, w)
	}
	for i, c := range s.Memory {
		p.bytes[uint64(i)] = c
	}
	return p
}

// scratch is the scratch that p is.
func (p *plain) scratch() api.Scratch {
	s := api.Scratch{Stack: slices.Clone(p.words), Memory: p.from(0, p.rows*32)}
	slices.Reverse(s.Stack)
	return s
}

// from are the n bytes from at on.
func (p *plain) from(at, n uint64) []byte {
	var row []byte
	for i := range n {
		row = append(row, p.bytes[at+i])
	}
	return row
}

func (p *plain) push(l ...api.Word) api.Errno {
	if len(p.words)+len(l) > mostWords {
		return api.ErrFull
	}
	for _, w := range l {
		p.words = slices.Insert(p.words, 0, w)
	}
	return api.OK
}

func (p *plain) pop(n int) ([]api.Word, api.Errno) {
	switch {
	case n < 0:
		return nil, api.ErrArg
	case n > len(p.words):
		return nil, api.ErrShort
	}
	popped := slices.Clone(p.words[:n])
	p.words = slices.Delete(p.words, 0, n)
	return popped, api.OK
}

func (p *plain) dup(n int) api.Errno {
	switch {
	case n < 1 || n > farthest:
		return api.ErrArg
	case len(p.words) < n:
		return api.ErrShort
	}
	return p.push(p.words[n-1])
}

func (p *plain) swap(n int) api.Errno {
	switch {
	case n < 1 || n > farthest:
		return api.ErrArg
	case len(p.words) <= n:
		return api.ErrShort
	}
	p.words[0], p.words[n] = p.words[n], p.words[0]
	return api.OK
}

func (p *plain) reach(at, n uint64) api.Errno {
	if n == 0 {
		return api.OK
	}
	end := new(big.Int).Add(new(big.Int).SetUint64(at), new(big.Int).SetUint64(n))
	if end.Cmp(big.NewInt(mostBytes)) > 0 {
		return api.ErrLong
	}
	for p.rows*32 < end.Uint64() {
		p.rows++
	}
	return api.OK
}

func (p *plain) load(at uint64) (api.Word, api.Errno) {
	if err := p.reach(at, 32); err != api.OK {
		return api.Word{}, err
	}
	return wordOf(p.from(at, 32)), api.OK
}

func (p *plain) lay(at uint64, b []byte) api.Errno {
	if err := p.reach(at, uint64(len(b))); err != api.OK {
		return err
	}
	for i, c := range b {
		p.bytes[at+uint64(i)] = c
	}
	return api.OK
}

func (p *plain) cut(at, n uint64) ([]byte, api.Errno) {
	if err := p.reach(at, n); err != api.OK {
		return nil, err
	}
	return p.from(at, n), api.OK
}

// plainWindow is what Window has to answer.
func plainWindow(b []byte, at, n uint64) ([]byte, api.Errno) {
	if n > mostBytes {
		return nil, api.ErrLong
	}
	var row []byte
	for i := range n {
		place := new(big.Int).Add(new(big.Int).SetUint64(at), new(big.Int).SetUint64(i))
		if place.Cmp(big.NewInt(int64(len(b)))) < 0 {
			row = append(row, b[place.Uint64()])
		} else {
			row = append(row, 0)
		}
	}
	return row, api.OK
}

// wordOf is the word of 32 bytes.
func wordOf(b []byte) api.Word {
	var w api.Word
	for i := range w {
		w[3-i] = binary.BigEndian.Uint64(b[8*i:])
	}
	return w
}

// dice throw numbers that are the same each time.
type dice struct{ seed uint64 }

func (d *dice) next() uint64 {
	d.seed = d.seed*6364136223846793005 + 1442695040888963407
	return d.seed>>33 ^ d.seed<<31
}

func (d *dice) below(n int) int { return int(d.next() % uint64(n)) }

// place throws a place, or a number of bytes: mostly one that may be, often one at which something changes.
func (d *dice) place() uint64 {
	switch d.below(8) {
	case 0:
		return places()[d.below(len(places()))]
	case 1:
		return d.next() >> d.below(64)
	case 2:
		return uint64(32 * d.below(33))
	}
	return uint64(d.below(mostBytes / 2))
}

// row throws n bytes; words throws n words.
func (d *dice) row(n int) []byte {
	var row []byte
	for range n {
		row = append(row, byte(d.next()>>8))
	}
	return row
}

func (d *dice) words(n int) []api.Word {
	var l []api.Word
	for range n {
		l = append(l, api.Word{d.next(), d.next(), d.next(), d.next()})
	}
	return l
}

// scratch throws one with so many words, and so many bytes.
func (d *dice) scratch(words, bytes int) api.Scratch {
	return api.Scratch{Stack: d.words(words), Memory: d.row(bytes)}
}

// places are where bytes begin, and how many they are: the edges.
func places() []uint64 {
	return []uint64{
		0, 1, 31, 32, 33, 63, 64, 65, 960, 991, 992, 993, 1022, 1023, 1024, 1025, 1055, 1056, 1057,
		// Numbers whose lower halves are small, and ones whose sums run over, to nothing, or to few bytes.
		1 << 32, 1<<32 + 32, 1 << 40, 1<<40 - 1, 1 << 63, 1<<63 - 1, 1<<63 + 32,
		1<<64 - 1057, 1<<64 - 1025, 1<<64 - 1024, 1<<64 - 1023, 1<<64 - 992, 1<<64 - 64, 1<<64 - 33, 1<<64 - 32, 1<<64 - 31, 1<<64 - 2, 1<<64 - 1,
	}
}
