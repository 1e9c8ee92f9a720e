package scratch_test

import (
	"bytes"
	"math"
	"slices"
	"strconv"
	"testing"

	"sheafer/api"
	"sheafer/scratch"
)

// answer is all that a call on a scratch answers, as far as it has it.
type answer struct {
	s     api.Scratch
	words []api.Word
	bytes []byte
	err   api.Errno
}

// call is one on a scratch, of the package and of a plain one; given is the list that it hands in besides.
type call struct {
	name  string
	does  func(s api.Scratch) answer
	plain func(p *plain) answer
	given any
}

func push(l ...api.Word) call {
	return call{
		"Push of " + strconv.Itoa(len(l)),
		func(s api.Scratch) (a answer) { a.s, a.err = scratch.Push(s, l...); return },
		func(p *plain) (a answer) { a.err = p.push(l...); return },
		l,
	}
}

func pop(n int) call {
	return call{
		"Pop " + strconv.Itoa(n),
		func(s api.Scratch) (a answer) { a.s, a.words, a.err = scratch.Pop(s, n); return },
		func(p *plain) (a answer) { a.words, a.err = p.pop(n); return },
		nil,
	}
}

func dup(n int) call {
	return call{
		"Dup " + strconv.Itoa(n),
		func(s api.Scratch) (a answer) { a.s, a.err = scratch.Dup(s, n); return },
		func(p *plain) (a answer) { a.err = p.dup(n); return },
		nil,
	}
}

func swap(n int) call {
	return call{
		"Swap " + strconv.Itoa(n),
		func(s api.Scratch) (a answer) { a.s, a.err = scratch.Swap(s, n); return },
		func(p *plain) (a answer) { a.err = p.swap(n); return },
		nil,
	}
}

func grow(at, n uint64) call {
	return call{
		"Grow " + number(at) + ", " + number(n),
		func(s api.Scratch) (a answer) { a.s, a.err = scratch.Grow(s, at, n); return },
		func(p *plain) (a answer) { a.err = p.reach(at, n); return },
		nil,
	}
}

func load(at uint64) call {
	return call{
		"Load " + number(at),
		func(s api.Scratch) (a answer) {
			var w api.Word
			a.s, w, a.err = scratch.Load(s, at)
			a.words = unlessNought(w)
			return
		},
		func(p *plain) (a answer) {
			var w api.Word
			w, a.err = p.load(at)
			a.words = unlessNought(w)
			return
		},
		nil,
	}
}

func lay(at uint64, b []byte) call {
	return call{
		"Lay " + number(at) + ", of " + strconv.Itoa(len(b)),
		func(s api.Scratch) (a answer) { a.s, a.err = scratch.Lay(s, at, b); return },
		func(p *plain) (a answer) { a.err = p.lay(at, b); return },
		b,
	}
}

func cut(at, n uint64) call {
	return call{
		"Cut " + number(at) + ", " + number(n),
		func(s api.Scratch) (a answer) { a.s, a.bytes, a.err = scratch.Cut(s, at, n); return },
		func(p *plain) (a answer) { a.bytes, a.err = p.cut(at, n); return },
		nil,
	}
}

// unlessNought is the word that Load answers as a list, so that 0 is nothing, as it is beside an error.
func unlessNought(w api.Word) []api.Word {
	if w == (api.Word{}) {
		return nil
	}
	return []api.Word{w}
}

func number(n uint64) string { return strconv.FormatUint(n, 10) }

// tries does a call on s, which may be, and holds what comes against what comes of a plain one: it may be, its memory has not shrunk, s is as it was, and shares nothing with it.
func tries(t *testing.T, s api.Scratch, c call) answer {
	t.Helper()
	s = roomy(s)
	was := told(s)
	p := plainOf(s)
	wanted := c.plain(p)
	if wanted.err == api.OK {
		wanted.s = p.scratch()
	}
	have := c.does(s)
	name := c.name + " of " + size(s)
	if !isSame(have, wanted) {
		t.Errorf("%s: the error %d, not %d, or something else: %v; should be %v", name, have.err, wanted.err, have, wanted)
	}
	if told(s) != was {
		t.Errorf("%s: what was handed in is changed", name)
	}
	if scratch.Check(have.s) != api.OK {
		t.Errorf("%s: what comes may not be", name)
	}
	if have.err == api.OK && len(have.s.Memory) < len(s.Memory) {
		t.Errorf("%s: the memory has shrunk", name)
	}
	apart(t, name, have, s)
	return have
}

// fails is tries, and the error is that one.
func fails(t *testing.T, s api.Scratch, c call, err api.Errno) {
	t.Helper()
	if have := tries(t, s, c); have.err != err {
		t.Errorf("%s of %s: the error %d, not %d", c.name, size(s), have.err, err)
	}
}

func size(s api.Scratch) string {
	return strconv.Itoa(len(s.Stack)) + " words, " + strconv.Itoa(len(s.Memory)) + " bytes"
}

func isSame(a, b answer) bool {
	return holds(a.s, b.s) && slices.Equal(a.words, b.words) && bytes.Equal(a.bytes, b.bytes) && a.err == b.err
}

// holds tells whether two scratches are the same, without the package's own Same.
func holds(a, b api.Scratch) bool {
	return slices.Equal(a.Stack, b.Stack) && bytes.Equal(a.Memory, b.Memory)
}

// words are the words of small numbers.
func words(l ...uint64) []api.Word {
	var row []api.Word
	for _, n := range l {
		row = append(row, api.Word{n})
	}
	return row
}

// The chapter's table of examples.
func TestExamples(t *testing.T) {
	s, err := scratch.Push(api.Scratch{}, words(1, 2, 3)...)
	if err != api.OK || !slices.Equal(s.Stack, words(1, 2, 3)) {
		t.Error("Push:", s, err)
	}
	if s, err = scratch.Swap(s, 2); err != api.OK || !slices.Equal(s.Stack, words(3, 2, 1)) {
		t.Error("Swap:", s, err)
	}
	if s, err = scratch.Dup(s, 3); err != api.OK || !slices.Equal(s.Stack, words(3, 2, 1, 3)) || len(s.Memory) != 0 {
		t.Error("Dup:", s, err)
	}
	s, popped, err := scratch.Pop(s, 2)
	if err != api.OK || !slices.Equal(s.Stack, words(3, 2)) || !slices.Equal(popped, words(3, 1)) {
		t.Error("Pop:", s, popped, err)
	}
	laid, err := scratch.Lay(api.Scratch{}, 30, []byte{7, 8, 9})
	if memory := append(make([]byte, 30), append([]byte{7, 8, 9}, make([]byte, 31)...)...); err != api.OK || !bytes.Equal(laid.Memory, memory) {
		t.Error("Lay:", laid, err)
	}
	if s, err = scratch.Grow(api.Scratch{}, 1020, 5); err != api.ErrLong || len(s.Memory) != 0 {
		t.Error("Grow by 5:", s, err)
	}
	if s, err = scratch.Grow(api.Scratch{}, math.MaxUint64, 0); err != api.OK || len(s.Memory) != 0 {
		t.Error("Grow by 0:", s, err)
	}
	if row, err := scratch.Window([]byte{7, 8}, 1, 3); err != api.OK || !bytes.Equal(row, []byte{8, 0, 0}) {
		t.Error("Window of two:", row, err)
	}
	if row, err := scratch.Window([]byte{7}, 9, 2); err != api.OK || !bytes.Equal(row, []byte{0, 0}) {
		t.Error("Window of one:", row, err)
	}
}

// P13.1: which scratches may be, by how many words and bytes they have.
func TestCheck(t *testing.T) {
	mayBe := map[int]bool{}
	for n := 0; n <= 1024; n += 32 {
		mayBe[n] = true
	}
	for n := range 1100 {
		for _, w := range []int{0, 1, 63, 64, 65, 1000} {
			err := api.ErrScratch
			if mayBe[n] && w <= 64 {
				err = api.OK
			}
			for what, s := range map[string]api.Scratch{
				"thrown":  (&dice{uint64(n)}).scratch(w, n),
				"noughts": {Stack: make([]api.Word, w), Memory: make([]byte, n)},
				"roomy":   {Stack: make([]api.Word, w, w+100), Memory: make([]byte, n, n+100)},
			} {
				if have := scratch.Check(s); have != err {
					t.Errorf("%s: Check of %s: %d, not %d", what, size(s), have, err)
				}
			}
		}
	}
	for _, n := range []int{2048, 4096, 1 << 16, 1<<16 + 32} {
		if have := scratch.Check(api.Scratch{Memory: make([]byte, n)}); have != api.ErrScratch {
			t.Errorf("Check of %d bytes: %d", n, have)
		}
	}
}

// P13.1: whether both are the same: each limb of each word, each byte, and how many there are, count; nil or empty, and what may be, do not.
func TestSame(t *testing.T) {
	same := func(what string, a, b api.Scratch, wanted bool) {
		t.Helper()
		wasA, wasB := told(a), told(b)
		if scratch.Same(a, b) != wanted || scratch.Same(b, a) != wanted {
			t.Errorf("%s: not %t", what, wanted)
		}
		if told(a) != wasA || told(b) != wasB {
			t.Errorf("%s: what was handed in is changed", what)
		}
	}
	for _, n := range [][2]int{{0, 0}, {1, 0}, {0, 32}, {3, 64}, {64, 1024}, {65, 1024}, {3, 31}, {100, 2000}} {
		s := (&dice{4}).scratch(n[0], n[1])
		what := size(s)
		same(what, s, s, true)
		same(what+", with room", s, roomy(s), true)
		for i := range n[0] {
			for limb := range 4 {
				other := roomy(s)
				other.Stack[i][limb] ^= 1 << (limb * 21)
				same(what+", one limb", s, other, false)
			}
		}
		for i := range n[1] {
			other := roomy(s)
			other.Memory[i] ^= 0x80
			same(what+", one byte", s, other, false)
		}
		same(what+", a nought more on the stack", s, api.Scratch{Stack: append(slices.Clone(s.Stack), api.Word{}), Memory: s.Memory}, false)
		same(what+", noughts more in the memory", s, api.Scratch{Stack: s.Stack, Memory: append(slices.Clone(s.Memory), make([]byte, 32)...)}, false)
		same(what+", without the stack", s, api.Scratch{Memory: s.Memory}, n[0] == 0)
		same(what+", without the memory", s, api.Scratch{Stack: s.Stack}, n[1] == 0)
		back := roomy(s)
		slices.Reverse(back.Stack)
		same(what+", the other way round", s, back, n[0] < 2)
	}
	same("nil and empty", api.Scratch{}, api.Scratch{Stack: []api.Word{}, Memory: []byte{}}, true)
	same("noughts and none", api.Scratch{Stack: make([]api.Word, 2)}, api.Scratch{Stack: make([]api.Word, 1)}, false)
}

// P13.2: pushes of none, of as many as fit, of one more, and of many more.
func TestPush(t *testing.T) {
	d := &dice{1}
	for _, n := range []int{0, 1, 2, 31, 62, 63, 64} {
		for _, bytes := range []int{0, 32, 1024} {
			s := d.scratch(n, bytes)
			for fits := range mostWords - n + 1 {
				fails(t, s, push(d.words(fits)...), api.OK)
			}
			for _, more := range []int{mostWords - n + 1, mostWords - n + 2, mostWords + 1, 1000} {
				fails(t, s, push(d.words(more)...), api.ErrFull)
			}
			have := tries(t, s, push(words(5, 6)...))
			if n <= 62 && !slices.Equal(have.s.Stack, append(slices.Clone(s.Stack), words(5, 6)...)) {
				t.Errorf("on %d words: %v", n, have.s.Stack)
			}
		}
	}
	fails(t, api.Scratch{}, push(), api.OK)
	fails(t, api.Scratch{}, push(make([]api.Word, 64)...), api.OK)
	fails(t, api.Scratch{}, push(make([]api.Word, 65)...), api.ErrFull)
}

// P13.2: pops of none, of some, of all, of one more, and of less than none.
func TestPop(t *testing.T) {
	d := &dice{2}
	for _, n := range []int{0, 1, 2, 31, 63, 64} {
		for _, bytes := range []int{0, 32, 1024} {
			s := d.scratch(n, bytes)
			for some := range n + 1 {
				fails(t, s, pop(some), api.OK)
			}
			for _, more := range []int{n + 1, n + 2, 65, 1000, math.MaxInt - 1, math.MaxInt} {
				fails(t, s, pop(more), api.ErrShort)
			}
			for _, less := range []int{-1, -2, -64, math.MinInt + 1, math.MinInt} {
				fails(t, s, pop(less), api.ErrArg)
			}
		}
	}
	s, popped, err := scratch.Pop(api.Scratch{Stack: words(4, 5, 6)}, 3)
	if err != api.OK || len(s.Stack) != 0 || !slices.Equal(popped, words(6, 5, 4)) {
		t.Error("all:", s, popped, err)
	}
	if s, popped, err = scratch.Pop(api.Scratch{Stack: words(4, 5, 6)}, 0); err != api.OK || !slices.Equal(s.Stack, words(4, 5, 6)) || len(popped) != 0 {
		t.Error("none:", s, popped, err)
	}
}

// P13.3: all n of Dup and Swap, and wrong ones, with just as many words as they need, one fewer, one more, and as many as there may be.
func TestDupAndSwap(t *testing.T) {
	d := &dice{3}
	for n := 1; n <= farthest; n++ {
		for _, bytes := range []int{0, 1024} {
			fails(t, d.scratch(n-1, bytes), dup(n), api.ErrShort)
			for _, enough := range []int{n, n + 1, 40, 63} {
				fails(t, d.scratch(enough, bytes), dup(n), api.OK)
			}
			fails(t, d.scratch(64, bytes), dup(n), api.ErrFull)
			fails(t, d.scratch(n-1, bytes), swap(n), api.ErrShort)
			fails(t, d.scratch(n, bytes), swap(n), api.ErrShort)
			for _, enough := range []int{n + 1, n + 2, 40, 63, 64} {
				fails(t, d.scratch(enough, bytes), swap(n), api.OK)
			}
			fails(t, api.Scratch{Memory: make([]byte, bytes)}, dup(n), api.ErrShort)
			fails(t, api.Scratch{Memory: make([]byte, bytes)}, swap(n), api.ErrShort)
		}
	}
	// That n is wrong is said ahead of too few words, and of no room.
	for _, n := range []int{0, -1, -2, -16, math.MinInt, math.MinInt + 1, 17, 18, 64, 65, 1 << 32, 1<<32 + 1, math.MaxInt - 1, math.MaxInt} {
		for _, there := range []int{0, 1, 15, 16, 17, 18, 63, 64} {
			fails(t, d.scratch(there, 32), dup(n), api.ErrArg)
			fails(t, d.scratch(there, 32), swap(n), api.ErrArg)
		}
	}
}

// P13.3: words that are told apart, by their places.
func TestWhichWord(t *testing.T) {
	var all []api.Word
	for i := range uint64(20) {
		all = append(all, api.Word{100 + i})
	}
	for n := 1; n <= farthest; n++ {
		s, err := scratch.Dup(api.Scratch{Stack: all}, n)
		if err != api.OK || len(s.Stack) != 21 || !slices.Equal(s.Stack[:20], all) || s.Stack[20] != (api.Word{uint64(120 - n)}) {
			t.Errorf("Dup %d: %v, %d", n, s.Stack, err)
		}
		wanted := slices.Clone(all)
		wanted[19], wanted[19-n] = api.Word{uint64(119 - n)}, api.Word{119}
		if s, err = scratch.Swap(api.Scratch{Stack: all}, n); err != api.OK || !slices.Equal(s.Stack, wanted) {
			t.Errorf("Swap %d: %v, %d", n, s.Stack, err)
		}
	}
}

// P13.4: what is reached, at and near all edges, sums that would run over among them.
func TestReached(t *testing.T) {
	d := &dice{5}
	for _, bytes := range []int{0, 32, 64, 992, 1024} {
		s := d.scratch(2, bytes)
		for _, at := range places() {
			tries(t, s, load(at))
			for _, n := range places() {
				tries(t, s, grow(at, n))
				tries(t, s, cut(at, n))
				if n <= 1057 {
					tries(t, s, lay(at, d.row(int(n))))
				}
			}
		}
	}
}

// P13.4: errors, and how much memory there is behind it, written out.
func TestHowMuchIsReached(t *testing.T) {
	const last = math.MaxUint64
	for _, c := range []struct {
		from  int
		at, n uint64
		to    int
	}{
		{0, 0, 0, 0}, {0, 1024, 0, 0}, {0, 1025, 0, 0}, {0, last, 0, 0}, {64, last, 0, 64}, {1024, last, 0, 1024},
		{0, 0, 1, 32}, {0, 0, 31, 32}, {0, 0, 32, 32}, {0, 0, 33, 64}, {0, 31, 1, 32}, {0, 32, 1, 64}, {0, 31, 2, 64}, {0, 1, 32, 64},
		{32, 0, 32, 32}, {32, 0, 33, 64}, {64, 0, 33, 64}, {64, 0, 1, 64}, {992, 991, 1, 992}, {992, 992, 1, 1024}, {992, 991, 2, 1024},
		{0, 0, 992, 992}, {0, 0, 993, 1024}, {0, 0, 1023, 1024}, {0, 0, 1024, 1024}, {0, 1023, 1, 1024}, {0, 992, 32, 1024}, {1024, 0, 1024, 1024},
		{0, 0, 1025, -1}, {0, 1024, 1, -1}, {0, 1, 1024, -1}, {0, 1023, 2, -1}, {0, 993, 32, -1}, {1024, 1024, 1, -1}, {1024, 1023, 2, -1}, {1024, 0, 1025, -1},
		// Sums that go round, to 0, 1, 32, 1024, and the greatest ones.
		{0, last, 1, -1}, {0, 1, last, -1}, {0, last, 2, -1}, {0, 2, last, -1}, {64, last - 31, 64, -1}, {64, 64, last - 31, -1},
		{1024, last - 1023, 2048 - 1, -1}, {1024, 1024, last - 1023, -1}, {1024, last, last, -1}, {0, 1 << 63, 1 << 63, -1}, {0, 0, last, -1}, {1024, 0, last, -1},
	} {
		s := api.Scratch{Memory: (&dice{6}).row(c.from)}
		grown, errGrow := scratch.Grow(s, c.at, c.n)
		other, row, errCut := scratch.Cut(s, c.at, c.n)
		err, to, n := api.OK, c.to, int(c.n)
		if c.to < 0 {
			err, to, n = api.ErrLong, 0, 0
		}
		if errGrow != err || len(grown.Memory) != to {
			t.Errorf("Grow of %d, %d, %d: %d bytes, %d", c.from, c.at, c.n, len(grown.Memory), errGrow)
		}
		if errCut != err || len(other.Memory) != to || len(row) != n {
			t.Errorf("Cut of %d, %d, %d: %d bytes, %d; %d", c.from, c.at, c.n, len(other.Memory), errCut, len(row))
		}
		if c.n > 4096 {
			continue
		}
		if laid, errLay := scratch.Lay(s, c.at, make([]byte, c.n)); errLay != err || len(laid.Memory) != to {
			t.Errorf("Lay of %d, %d, %d: %d bytes, %d", c.from, c.at, c.n, len(laid.Memory), errLay)
		}
		if loaded, w, errLoad := scratch.Load(s, c.at); c.n == 32 && (errLoad != err || len(loaded.Memory) != to || err != api.OK && w != api.Word{}) {
			t.Errorf("Load of %d, %d: %d bytes, %d; %v", c.from, c.at, len(loaded.Memory), errLoad, w)
		}
	}
}

// P13.4: words and bytes that are read, in memory, over its end, and behind it; the highest byte first.
func TestWhatIsRead(t *testing.T) {
	s := api.Scratch{Memory: make([]byte, 32)}
	for i := range s.Memory {
		s.Memory[i] = byte(i + 1)
	}
	for at, w := range map[uint64]api.Word{
		0:  {0x191a1b1c1d1e1f20, 0x1112131415161718, 0x090a0b0c0d0e0f10, 0x0102030405060708},
		1:  {0x1a1b1c1d1e1f2000, 0x1213141516171819, 0x0a0b0c0d0e0f1011, 0x0203040506070809},
		31: {0, 0, 0, 0x2000000000000000},
		32: {}, 33: {}, 992: {},
	} {
		if have, read, err := scratch.Load(s, at); err != api.OK || read != w || !bytes.HasPrefix(have.Memory, s.Memory) {
			t.Errorf("Load %d: %x, %d", at, read, err)
		}
	}
	for _, c := range []struct {
		at, n uint64
		row   []byte
	}{
		{0, 3, []byte{1, 2, 3}}, {29, 3, []byte{30, 31, 32}}, {30, 4, []byte{31, 32, 0, 0}}, {31, 1, []byte{32}}, {32, 1, []byte{0}}, {40, 2, []byte{0, 0}}, {9, 0, nil}, {99, 0, nil},
	} {
		if _, row, err := scratch.Cut(s, c.at, c.n); err != api.OK || !bytes.Equal(row, c.row) {
			t.Errorf("Cut %d, %d: %v, %d", c.at, c.n, row, err)
		}
	}
}

// P13.5: windows of none, of some, of as many as may be, of one more, that begin in, at and behind the end, or nearly at the greatest number.
func TestWindow(t *testing.T) {
	d := &dice{7}
	for _, bytes := range []int{0, 1, 2, 31, 32, 33, 1023, 1024, 1025, 3000, 1 << 17} {
		b := d.row(bytes)
		all := append(places(), uint64(bytes), uint64(bytes)-1, uint64(bytes)+1, uint64(bytes)-32, uint64(bytes/2))
		for _, at := range all {
			for _, n := range []uint64{0, 1, 2, 31, 32, 33, 1023, 1024, 1025, 1026, 2048, 1 << 32, 1<<32 + 1, 1 << 63, math.MaxUint64 - 1, math.MaxUint64} {
				windows(t, b, at, n)
			}
		}
		if row, err := scratch.Window(b, 0, 1024); err != api.OK || len(row) != 1024 {
			t.Errorf("of %d: %d bytes, %d", bytes, len(row), err)
		}
		if row, err := scratch.Window(b, 0, 1025); err != api.ErrLong || len(row) != 0 {
			t.Errorf("of %d: %d bytes, %d", bytes, len(row), err)
		}
	}
	for range 3000 {
		windows(t, d.row(d.below(1500)), d.place(), d.place())
	}
}

// windows holds what Window answers against a plain one.
func windows(t *testing.T, b []byte, at, n uint64) {
	t.Helper()
	room := append(slices.Clone(b), 0x5a, 0x5a, 0x5a)
	given := room[:len(b)]
	row, err := scratch.Window(given, at, n)
	wanted, wantedErr := plainWindow(b, at, n)
	if err != wantedErr || !bytes.Equal(row, wanted) {
		t.Errorf("Window of %d, %d, %d: the error %d, not %d, or %v", len(b), at, n, err, wantedErr, row)
	}
	spoil(&row)
	if !bytes.Equal(room[:len(b)], b) || !bytes.Equal(room[len(b):], []byte{0x5a, 0x5a, 0x5a}) {
		t.Errorf("Window of %d, %d, %d: what was handed in is changed", len(b), at, n)
	}
}

// badOnes are scratches that may not be, by what is wrong with them.
func badOnes() map[string]api.Scratch {
	d := &dice{8}
	return map[string]api.Scratch{
		"65 words":              d.scratch(65, 0),
		"65 words, 32 bytes":    d.scratch(65, 32),
		"1000 words":            d.scratch(1000, 1024),
		"a byte":                d.scratch(0, 1),
		"31 bytes":              d.scratch(3, 31),
		"33 bytes":              d.scratch(63, 33),
		"1023 bytes":            d.scratch(17, 1023),
		"1025 bytes":            d.scratch(17, 1025),
		"1056 bytes":            d.scratch(17, 1056),
		"2048 bytes, full":      d.scratch(64, 2048),
		"both":                  d.scratch(65, 1056),
		"words that are all 0":  {Stack: make([]api.Word, 65)},
		"bytes that are all 0":  {Memory: make([]byte, 1056)},
		"a byte behind 32":      {Memory: make([]byte, 33)},
		"a byte ahead of 32":    {Memory: make([]byte, 31)},
		"room enough, and more": {Stack: make([]api.Word, 65, 200), Memory: make([]byte, 32, 64)},
	}
}

// Errors: what may not be is said ahead of all else, whatever else is wrong, or is not; and nothing is answered with it.
func TestMayNotBe(t *testing.T) {
	d := &dice{9}
	for name, s := range badOnes() {
		s = roomy(s)
		was := told(s)
		all := []call{push(), push(d.words(1)...), push(d.words(64)...), push(d.words(65)...), push(d.words(1000)...)}
		for _, n := range []int{math.MinInt, -1, 0, 1, 2, 16, 17, 64, 65, 66, 1001, math.MaxInt} {
			all = append(all, pop(n), dup(n), swap(n))
		}
		for _, at := range places() {
			all = append(all, load(at), lay(at, nil), lay(at, d.row(1)), lay(at, d.row(32)), lay(at, d.row(1025)))
			for _, n := range places() {
				all = append(all, grow(at, n), cut(at, n))
			}
		}
		for _, c := range all {
			have := c.does(s)
			if have.err != api.ErrScratch || !isSame(have, answer{err: api.ErrScratch}) {
				t.Errorf("%s: %s: %v", name, c.name, have)
			}
		}
		if told(s) != was {
			t.Errorf("%s: what was handed in is changed", name)
		}
	}
}

// Errors: which number each one has.
func TestNumbersOfErrors(t *testing.T) {
	for name, err := range map[api.Errno]api.Errno{2: api.ErrArg, 3: api.ErrLong, 6: api.ErrFull, 7: api.ErrShort, 230: api.ErrScratch} {
		if name != err {
			t.Errorf("%d: %d", name, err)
		}
	}
}
