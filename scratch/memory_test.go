package scratch_test

import (
	"reflect"
	"slices"
	"strconv"
	"strings"
	"testing"

	"sheafer/api"
	"sheafer/scratch"
)

// wide is the list with room behind its end, in which something stands.
func wide[T any](l []T, filler T) []T {
	row := make([]T, len(l)+70)
	for i := copy(row, l); i < len(row); i++ {
		row[i] = filler
	}
	return row[:len(l)]
}

// roomy is s with lists of its own that have room behind their ends.
func roomy(s api.Scratch) api.Scratch {
	return api.Scratch{Stack: wide(s.Stack, api.Word{0x5a, 0x5a, 0x5a, 0x5a}), Memory: wide(s.Memory, 0x5a)}
}

// told is all that s holds as a text, with what stands in the room behind its lists' ends.
func told(s api.Scratch) string {
	var b strings.Builder
	b.WriteString(size(s) + ":")
	for _, w := range s.Stack[:cap(s.Stack)] {
		for _, limb := range w {
			b.WriteString(" " + strconv.FormatUint(limb, 16))
		}
	}
	b.WriteString("; ")
	b.Write(s.Memory[:cap(s.Memory)])
	return b.String()
}

// spoil changes all bytes, and all words, in the room behind the list's end, too.
func spoil(l *[]byte) {
	for i, c := range (*l)[:cap(*l)] {
		(*l)[:cap(*l)][i] = ^c
	}
}

func spoilWords(l []api.Word) {
	for i := range l[:cap(l)] {
		l[:cap(l)][i][0]++
	}
}

func spoilAll(a answer) {
	spoilWords(a.s.Stack)
	spoil(&a.s.Memory)
	spoilWords(a.words)
	spoil(&a.bytes)
}

// span is where a list lies in memory, with its room: from which byte on, and up to which.
func span(l any) [2]uintptr {
	v := reflect.ValueOf(l)
	return [2]uintptr{v.Pointer(), v.Pointer() + uintptr(v.Cap())*v.Type().Elem().Size()}
}

// apart fails, if lists of what came share memory with those of s, or with one another.
func apart(t *testing.T, name string, have answer, s api.Scratch, given ...any) {
	t.Helper()
	mine := []any{have.s.Stack, have.s.Memory, have.words, have.bytes}
	others := append([]any{s.Stack, s.Memory}, given...)
	for i, l := range mine {
		for _, other := range slices.Concat(mine[:i], others) {
			if a, b := span(l), span(other); a[0] < b[1] && b[0] < a[1] {
				t.Errorf("%s: lists share memory", name)
			}
		}
	}
}

// deeds are calls of all kinds that go well on a scratch of 20 words and 96 bytes; they hand in lists with room, and of their own, too.
func deeds(s api.Scratch) []call {
	d := &dice{21}
	return []call{
		push(), push(wide([]api.Word{{1}, {2}, {3}}, api.Word{9})...), push(wide(d.words(44), api.Word{9})...),
		push(s.Stack...), push(s.Stack[3:5]...), push(s.Stack[18:]...),
		pop(0), pop(1), pop(19), pop(20),
		dup(1), dup(16), swap(1), swap(16),
		grow(0, 0), grow(0, 96), grow(90, 7), grow(0, 1024), grow(1<<63, 0),
		load(0), load(7), load(64), load(65), load(96), load(992),
		lay(0, nil), lay(0, []byte{}), lay(1<<63, wide([]byte{}, 7)), lay(0, wide(d.row(96), 7)), lay(31, wide(d.row(2), 7)), lay(95, wide(d.row(3), 7)), lay(0, wide(d.row(1024), 7)),
		lay(0, s.Memory), lay(1, s.Memory), lay(96, s.Memory), lay(3, s.Memory[5:50]), lay(5, s.Memory[3:50]), lay(928, s.Memory),
		cut(0, 0), cut(1<<63, 0), cut(0, 96), cut(0, 1), cut(95, 1), cut(95, 2), cut(96, 1), cut(0, 1024), cut(31, 33),
	}
}

// begun is a scratch on which all deeds go well.
func begun() api.Scratch {
	return roomy((&dice{22}).scratch(20, 96))
}

// R3: what is handed in stays as it is, the room behind its lists' ends, too; what comes is new memory, list by list: neither changes with the other one.
func TestNewMemory(t *testing.T) {
	for i := range deeds(begun()) {
		s := begun()
		c := deeds(s)[i]
		was := told(s)
		p := plainOf(s)
		wanted := c.plain(p)
		wanted.s = p.scratch()
		have := c.does(s)
		if have.err != api.OK || !isSame(have, wanted) || told(s) != was {
			t.Errorf("%s: the error %d, or not what it should be, or what was handed in is changed", c.name, have.err)
		}
		if c.given == nil {
			apart(t, c.name, have, s)
		} else {
			apart(t, c.name, have, s, c.given)
		}
		text := told(have.s)
		spoilAll(answer{s: s})
		if told(have.s) != text || !slices.Equal(have.words, wanted.words) || !slices.Equal(have.bytes, wanted.bytes) {
			t.Errorf("%s: what comes changes with what was handed in", c.name)
		}
		text = told(s)
		spoilAll(have)
		if told(s) != text {
			t.Errorf("%s: what was handed in changes with what comes", c.name)
		}
	}
}

// R3: the words that are pushed, and the bytes that are laid, or looked at, stay as they are, the room behind their ends, too, whether it goes well or not; they are not kept.
func TestListsStay(t *testing.T) {
	s := begun()
	for _, n := range []int{0, 1, 43, 44, 45} {
		l := wide((&dice{23}).words(n), api.Word{9})
		was := slices.Clone(l[:cap(l)])
		have, err := scratch.Push(s, l...)
		text := told(have)
		if !slices.Equal(l[:cap(l)], was) || (err == api.OK) != (n <= 44) {
			t.Errorf("%d words: changed, or the error %d", n, err)
		}
		if spoilWords(l); told(have) != text {
			t.Errorf("%d words: kept", n)
		}
	}
	for _, n := range []int{0, 1, 96, 994, 995, 2000} {
		b := wide((&dice{24}).row(n), 7)
		was := slices.Clone(b[:cap(b)])
		have, err := scratch.Lay(s, 30, b)
		row, errWindow := scratch.Window(b, 1, 40)
		text, window := told(have), slices.Clone(row)
		if !slices.Equal(b[:cap(b)], was) || (err == api.OK) != (n <= 994) || errWindow != api.OK {
			t.Errorf("%d bytes: changed, or the errors %d, %d", n, err, errWindow)
		}
		apart(t, "Window", answer{bytes: row}, s, b)
		if spoil(&b); told(have) != text || !slices.Equal(row, window) {
			t.Errorf("%d bytes: kept", n)
		}
	}
}

// R3: a scratch from which two other ones are made, each of which goes on by itself.
func TestEachByItself(t *testing.T) {
	for i := range deeds(begun()) {
		for k := range deeds(begun()) {
			s := begun()
			was := told(s)
			first, second := deeds(s)[i], deeds(s)[k]
			one := first.does(s)
			wasOne := told(one.s)
			two := second.does(s)
			if told(one.s) != wasOne || told(s) != was {
				t.Errorf("%s changes what came of %s", second.name, first.name)
			}
			apart(t, first.name+", "+second.name, one, two.s, two.words, two.bytes)
			wasTwo := told(two.s)
			if spoilAll(one); told(two.s) != wasTwo || told(s) != was {
				t.Errorf("%s changes with %s", second.name, first.name)
			}
		}
	}
}

// R3: nil and empty lists are one, in what is handed in and in what is answered.
func TestNilAndEmpty(t *testing.T) {
	full := api.Scratch{Stack: make([]api.Word, 3), Memory: make([]byte, 32)}
	for name, s := range map[string]api.Scratch{
		"nil": {}, "empty": {Stack: []api.Word{}, Memory: []byte{}}, "with room": {Stack: full.Stack[:0], Memory: full.Memory[:0]},
	} {
		for _, c := range []call{push(), push([]api.Word{}...), pop(0), grow(5, 0), lay(5, nil), lay(5, []byte{}), cut(5, 0)} {
			have := c.does(s)
			if have.err != api.OK || !holds(have.s, api.Scratch{}) || len(have.words) != 0 || len(have.bytes) != 0 {
				t.Errorf("%s of %s: %v", c.name, name, have)
			}
			if !scratch.Same(have.s, s) {
				t.Errorf("%s of %s: not the same", c.name, name)
			}
		}
	}
	for _, b := range [][]byte{nil, {}} {
		if row, err := scratch.Window(b, 0, 2); err != api.OK || !slices.Equal(row, []byte{0, 0}) {
			t.Error("Window of nothing:", row, err)
		}
		if row, err := scratch.Window(b, 0, 0); err != api.OK || len(row) != 0 {
			t.Error("Window of nothing, nothing of it:", row, err)
		}
	}
}
