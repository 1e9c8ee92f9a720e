package scratch_test

import (
	"bytes"
	"slices"
	"testing"

	"sheafer/api"
	"sheafer/scratch"
	"sheafer/word"
)

// many are scratches of all kinds that may be: few words and many, no memory and all of it.
func many(d *dice) []api.Scratch {
	all := []api.Scratch{{}, {Stack: []api.Word{}, Memory: []byte{}}}
	for _, words := range []int{0, 1, 2, 16, 17, 63, 64} {
		for _, rows := range []int{0, 1, 2, 31, 32} {
			all = append(all, d.scratch(words, 32*rows))
		}
	}
	return all
}

// throws is any call at all.
func (d *dice) throws(s api.Scratch) call {
	n := d.below(20) - 1
	switch d.below(8) {
	case 0:
		return push(d.words(max(0, d.below(12)-4))...)
	case 1:
		return pop(d.below(8) - 1)
	case 2:
		return dup(n)
	case 3:
		return swap(n)
	case 4:
		return grow(d.place(), d.place()>>d.below(9))
	case 5:
		return load(d.place())
	case 6:
		return lay(d.place(), d.row(d.below(5)*d.below(300)))
	}
	return cut(d.place(), d.place()>>d.below(9))
}

// P13.6, and all calls one behind the other: each held against a plain scratch; what comes may be, and memory never shrinks (see tries).
func TestAgainstPlain(t *testing.T) {
	fine, refused := 0, map[api.Errno]int{}
	for seed := range uint64(60) {
		d := &dice{seed}
		s := api.Scratch{}
		if seed%3 > 0 {
			s = d.scratch(d.below(65), 32*d.below(33))
		}
		for range 150 {
			have := tries(t, s, d.throws(s))
			if t.Failed() {
				return
			}
			if have.err != api.OK {
				refused[have.err]++
				continue
			}
			fine++
			s = have.s
			// Memory that has grown wholly shows no growing any more.
			if len(s.Memory) == mostBytes && d.below(10) == 0 {
				s.Memory = nil
			}
		}
	}
	for _, err := range []api.Errno{api.ErrArg, api.ErrLong, api.ErrFull, api.ErrShort} {
		if refused[err] < 50 || fine < 3000 {
			t.Errorf("%d are fine, %v are refused: too few", fine, refused)
		}
	}
}

// P13.6: Load behind Lay of a word's 32 bytes is that word, wherever they lie; its Bytes are what Cut tells.
func TestLoadBehindLay(t *testing.T) {
	d := &dice{11}
	for _, s := range many(d) {
		for at := range uint64(mostBytes - 32 + 1) {
			row := d.row(32)
			laid, err := scratch.Lay(s, at, row)
			have, w, errLoad := scratch.Load(laid, at)
			other, cut, errCut := scratch.Cut(laid, at, 32)
			if err != api.OK || errLoad != api.OK || errCut != api.OK || w != wordOf(row) || !bytes.Equal(cut, row) || !bytes.Equal(word.Bytes(w), row) {
				t.Fatalf("at %d of %s: %x, not %x; %d, %d, %d", at, size(s), w, row, err, errLoad, errCut)
			}
			if !holds(have, laid) || !holds(other, laid) {
				t.Fatalf("at %d of %s: what is read is changed", at, size(s))
			}
		}
	}
}

// P13.6: bytes that Lay does not reach stay, and those that come are noughts; the stack stays.
func TestLayLeavesTheRest(t *testing.T) {
	d := &dice{12}
	for _, s := range many(d) {
		for range 100 {
			at, row := uint64(d.below(mostBytes)), d.row(d.below(80))
			laid, err := scratch.Lay(s, at, row)
			if at+uint64(len(row)) > mostBytes {
				if err != api.ErrLong {
					t.Fatalf("at %d, %d bytes: %d", at, len(row), err)
				}
				continue
			}
			if err != api.OK || !slices.Equal(laid.Stack, s.Stack) {
				t.Fatalf("at %d, %d bytes, of %s: %d", at, len(row), size(s), err)
			}
			for i, c := range laid.Memory {
				wanted := byte(0)
				if i < len(s.Memory) {
					wanted = s.Memory[i]
				}
				if i >= int(at) && i < int(at)+len(row) {
					wanted = row[i-int(at)]
				}
				if c != wanted {
					t.Fatalf("at %d, %d bytes, of %s: %x at %d, not %x", at, len(row), size(s), c, i, wanted)
				}
			}
		}
	}
}

// P13.6: Pop of what was pushed is that, the other way round, and leaves what there was.
func TestPoppedAsPushed(t *testing.T) {
	d := &dice{13}
	for _, s := range many(d) {
		for n := range mostWords - len(s.Stack) + 1 {
			l := d.words(n)
			pushed, err := scratch.Push(s, l...)
			have, popped, errPop := scratch.Pop(pushed, n)
			slices.Reverse(popped)
			if err != api.OK || errPop != api.OK || !holds(have, s) || !slices.Equal(popped, l) {
				t.Fatalf("%d on %s: %v, %d, %d", n, size(s), have, err, errPop)
			}
			one := s
			for _, w := range l {
				if one, err = scratch.Push(one, w); err != api.OK {
					t.Fatal(err)
				}
			}
			if !holds(one, pushed) {
				t.Fatalf("%d on %s, one by one: %v, not %v", n, size(s), one, pushed)
			}
		}
	}
}

// P13.6: twice the same Swap is none; Dup's word, taken off again, leaves what there was.
func TestTwiceIsNone(t *testing.T) {
	d := &dice{14}
	for _, s := range many(d) {
		for n := 1; n <= farthest; n++ {
			once, err := scratch.Swap(s, n)
			twice, errTwice := scratch.Swap(once, n)
			if wanted := len(s.Stack) > n; (err == api.OK) != wanted || wanted && (errTwice != api.OK || !holds(twice, s) || holds(once, s)) {
				t.Errorf("Swap %d of %s: %d, %d", n, size(s), err, errTwice)
			}
			more, err := scratch.Dup(s, n)
			less, popped, errPop := scratch.Pop(more, 1)
			if wanted := len(s.Stack) >= n && len(s.Stack) < mostWords; (err == api.OK) != wanted || wanted && (errPop != api.OK || !holds(less, s) || popped[0] != s.Stack[len(s.Stack)-n]) {
				t.Errorf("Dup %d of %s: %d, %d", n, size(s), err, errPop)
			}
		}
	}
}

// P13.6: to grow in two steps, whichever is the greater one, is to grow to the greater end; what was there stays.
func TestGrowInTwoSteps(t *testing.T) {
	d := &dice{15}
	ends := []uint64{0, 1, 31, 32, 33, 63, 64, 65, 500, 991, 992, 993, 1023, 1024}
	for _, s := range many(d) {
		for _, a := range ends {
			for _, b := range ends {
				twoSteps(t, d, s, a, b)
			}
		}
		for range 200 {
			twoSteps(t, d, s, uint64(d.below(mostBytes+1)), uint64(d.below(mostBytes+1)))
		}
	}
}

// twoSteps grows s to two ends, by any number of bytes each.
func twoSteps(t *testing.T, d *dice, s api.Scratch, a, b uint64) {
	t.Helper()
	first, err := growTo(d, s, a)
	both, errBoth := growTo(d, first, b)
	once, errOnce := growTo(d, s, max(a, b))
	if err != api.OK || errBoth != api.OK || errOnce != api.OK || !holds(both, once) {
		t.Fatalf("to %d and %d, of %s: %s, not %s; %d, %d, %d", a, b, size(s), size(both), size(once), err, errBoth, errOnce)
	}
	if !bytes.HasPrefix(both.Memory, s.Memory) || !slices.Equal(both.Stack, s.Stack) || bytes.ContainsFunc(both.Memory[len(s.Memory):], func(c rune) bool { return c != 0 }) {
		t.Fatalf("to %d and %d, of %s: what was there has not stayed, or what comes is no nought", a, b, size(s))
	}
}

// growTo grows s by bytes that end there: any number of them, but not none, if there is one.
func growTo(d *dice, s api.Scratch, end uint64) (api.Scratch, api.Errno) {
	if end == 0 {
		return scratch.Grow(s, d.next(), 0)
	}
	n := 1 + uint64(d.below(int(end)))
	return scratch.Grow(s, end-n, n)
}
