package code_test

import (
	"bytes"
	"slices"
	"strconv"
	"strings"
	"testing"

	"sheafer/api"
	"sheafer/code"
)

// parses fails, unless Parse answers of the text what the plain reader does, and Text of that the text.
func parses(t *testing.T, p plain, text string) {
	t.Helper()
	want, wantErr := p.parse(text)
	have, err := code.Parse(text)
	if !bytes.Equal(have, want) || err != wantErr {
		t.Errorf("Parse(%.80q): %x, %d; should be %x, %d", text, have, err, want, wantErr)
	}
	if err != api.OK {
		return
	}
	if again, err := code.Text(have); again != text || err != api.OK {
		t.Errorf("Text of Parse(%.80q): %.80q, %d", text, again, err)
	}
}

// told fails, unless Text answers of the program what the plain reader does, and Parse of that the program.
func told(t *testing.T, p plain, b []byte) string {
	t.Helper()
	text, err := code.Text(b)
	if want := p.text(b); text != want || err != api.OK {
		t.Errorf("Text(%x): %q, %d; should be %q", b, text, err, want)
	}
	if again, err := code.Parse(text); !bytes.Equal(again, b) || err != api.OK {
		t.Errorf("Parse of Text(%x): %x, %d", b, again, err)
	}
	return text
}

// P11.3: texts, written out, and their programs.
func TestTexts(t *testing.T) {
	ff, noughts := strings.Repeat("ff", 32), strings.Repeat("00", 32)
	for text, digits := range map[string]string{
		"":                                 "",
		"STOP":                             "00",
		"JUMPDEST":                         "5b",
		".0c":                              "0c",
		".05 .ff .5e .5f .a0":              "05 ff 5e 5f a0",
		"PUSH1 ":                           "60",
		"PUSH1 05":                         "60 05",
		"PUSH1 5b JUMPDEST":                "60 5b 5b",
		"PUSH2 ":                           "61",
		"PUSH2 01":                         "61 01",
		"PUSH2 0102":                       "61 01 02",
		"ADD PUSH1 ":                       "01 60",
		"PUSH1 60 PUSH1 ":                  "60 60 60",
		"PUSH32 ":                          "7f",
		"PUSH32 " + ff:                     "7f" + ff,
		"PUSH32 " + ff[2:]:                 "7f" + ff[2:],
		"PUSH32 " + noughts + " PUSH1 ":    "7f" + noughts + "60",
		"DUP1 DUP16 SWAP1 SWAP16":          "80 8f 90 9f",
		"PUSH1 20 PUSH1 00 RETURN":         "60 20 60 00 f3",
		"PUSH3 abcdef MSTORE8 CREATE2 .f2": "62 ab cd ef 53 f5 f2",
	} {
		b := unhex(digits)
		if have, err := code.Text(b); have != text || err != api.OK {
			t.Errorf("Text(%x): %q, %d; should be %q", b, have, err, text)
		}
		if have, err := code.Parse(text); !bytes.Equal(have, b) || err != api.OK {
			t.Errorf("Parse(%q): %x, %d; should be %x", text, have, err, b)
		}
	}
}

// P11.3: texts of no program.
func TestNoTexts(t *testing.T) {
	for _, text := range []string{
		" ", "  ", "\n", "\x00", ".", "..", ". ", ".0", ".0c ", " .0c", ".0c0c", ".0c .", ".0C", ".FF", ".0g", "0c", "01", ".01", ".00", ".60", ".5b", ".fe", ". 0c", ".0 c", ".0x0c", "..0c", "-0c", "#0c", ".\xff\xff", ".é", ".0é", ".０c",
		" STOP", "STOP ", " STOP ", "STOP  STOP", "STOP\nSTOP", "STOP\tSTOP", "STOP\n", "STOP\u00a0STOP", "STOP,STOP", "STOPSTOP", "stop", "Stop", "STOP stop", "STOP 00", "STOP .00", "ADD 01", "STOP;", "STOP\x00",
		"PUSH1", "PUSH32", "ADD PUSH1", "PUSH105", "PUSH1  ", "PUSH1  05", "PUSH1 05 ", " PUSH1 05", "PUSH1 5", "PUSH1 005", "PUSH1 0", "PUSH1 0505", "PUSH1 05 05", "PUSH1 .05", "PUSH1 ADD", "PUSH1  ADD", "PUSH1 PUSH1 05", "PUSH1 0x05", "PUSH1 #05", "PUSH1\n05", "PUSH1 05\n",
		"PUSH1 AB", "PUSH1 Ab", "PUSH1 aB", "PUSH1 0A", "PUSH1 0g", "PUSH1 g0", "PUSH1 +5", "PUSH1 -5", "PUSH1 5 ", "PUSH1 é", "PUSH1 éé", "PUSH1 \xff\xff", "PUSH1 0\xff", "PUSH2 é5", "PUSH2 é05", "PUSH2 05é", "PUSH1 ０５", "PUSH6 ０５", "PUSH1 :0", "PUSH1 /0", "PUSH1 `0", "PUSH1 G0",
		"PUSH2 01 ADD", "PUSH2 01 ", "PUSH2 010", "PUSH2 01020", "PUSH2 010203", "PUSH2 01 02", "PUSH2  ADD", "PUSH2 ADD", "PUSH2 01 PUSH1 ", "PUSH1  PUSH1 ", "PUSH32 " + strings.Repeat("00", 33), "PUSH32 " + strings.Repeat("00", 31) + " ADD",
		"PUSH0", "PUSH0 ", "PUSH33 ", "PUSH33 " + strings.Repeat("00", 33), "PUSH01 05", "push1 05", "Push1 05", "DUP0", "DUP17", "DUP1 05", "SWAP0", "SWAP17", "SWAP16 ", "é", "ÄDD", "ADD é", "\xff", "ADD \xff", "\xffADD", "ADD\xff", "ADD\xc2", "\xef\xbb\xbfADD", "ADD ",
		"JUMPDEST JUMPDES", "(code ADD)", "ADD ; ADD",
	} {
		if b, err := code.Parse(text); len(b) != 0 || err != api.ErrCode {
			t.Errorf("Parse(%q): %x, %d", text, b, err)
		}
	}
	p := newPlain()
	for _, name := range noNames() {
		for _, text := range []string{"ADD " + name, name + " ADD", "ADD " + name + " ADD"} {
			parses(t, p, text)
		}
	}
}

// P11.3: Text of as many bytes as may be, and of what is no program.
func TestTextOfTooLong(t *testing.T) {
	for name, b := range tooLong() {
		if text, err := code.Text(b); text != "" || err != api.ErrLong {
			t.Errorf("%s: %.50q, %d", name, text, err)
		}
	}
	p := newPlain()
	for n := range mostBytes + 1 {
		for _, c := range []byte{0x00, 0x0c, 0x5b, 0x60, 0x7f, 0xf4} {
			told(t, p, bytes.Repeat([]byte{c}, n))
		}
	}
}

// P11.3: texts whose program would have more bytes than a program has.
func TestParseOfTooLong(t *testing.T) {
	p := newPlain()
	for words, size := range map[string]int{" ADD": 1, " .0c": 1, " PUSH1 5b": 2, " PUSH32 " + strings.Repeat("5b", 32): 33} {
		for _, tail := range []string{"", " ADD", " .0c", " PUSH1 ", " PUSH1 01", " PUSH2 01", " PUSH32 " + strings.Repeat("01", 31), " PUSH32 " + strings.Repeat("01", 32)} {
			for n := (mostBytes - 40) / size; n*size <= mostBytes+5; n++ {
				parses(t, p, strings.TrimPrefix(strings.Repeat(words, n)+tail, " "))
			}
		}
		if b, err := code.Parse(strings.Repeat(words, 100000)[1:]); len(b) != 0 || err != api.ErrCode {
			t.Errorf("very many of %.20q: %x, %d", words, b, err)
		}
	}
	for _, long := range []string{" ", "A", "0", "PUSH1 ", "é", "\xff", ".", ".0c"} {
		for _, ahead := range []string{"", "PUSH1 ", "PUSH32 ", "ADD ", "."} {
			if b, err := code.Parse(ahead + strings.Repeat(long, 1000000)); len(b) != 0 || err != api.ErrCode {
				t.Errorf("%q, and very many of %q: %x, %d", ahead, long, b, err)
			}
		}
	}
}

// P11.3, P11.4: all programs of up to two bytes, told and read again; and no two have one text.
func TestShortPrograms(t *testing.T) {
	p := newPlain()
	seen := map[string]int{told(t, p, nil): -1}
	put := func(b []byte, number int) {
		text := told(t, p, b)
		if other, there := seen[text]; there {
			t.Errorf("%x and the program %d: %q", b, other, text)
		}
		seen[text] = number
		if have, want := code.Jumps(b), p.jumps(b); !slices.Equal(have, want) {
			t.Errorf("Jumps(%x): %v, should be %v", b, have, want)
		}
	}
	for c := range 256 {
		put([]byte{byte(c)}, c)
		for d := range 256 {
			put([]byte{byte(c), byte(d)}, 256+256*c+d)
		}
	}
}

// P11.3, P11.4: Parse of Text is the program.
func TestParseOfText(t *testing.T) {
	p := newPlain()
	for _, b := range some() {
		told(t, p, b)
	}
	for n := 1; n <= 32; n++ {
		for there := range n + 4 {
			told(t, p, append([]byte{byte(0x5f + n)}, bytes.Repeat([]byte{0x60}, there)...))
		}
	}
	d := dice{seed: 11}
	for range 2000 {
		told(t, p, d.program(mostBytes))
	}
}

// P11.3, P11.4: a text that is changed somewhere is the text of another program, or of none: Text of Parse is the text.
func TestTextOfParse(t *testing.T) {
	p := newPlain()
	d := dice{seed: 13}
	texts := []string{"", "ADD", ".0c", "PUSH1 ", "PUSH1 05", "PUSH2 01", "PUSH1 05 ADD INVALID .0c", "DUP1 SWAP16 DUP16 .0d", "ADD PUSH3 0a0b0c MSTORE8 CREATE2 PUSH12 00"}
	for range 12 {
		texts = append(texts, p.text(d.program(12)))
	}
	for _, text := range texts {
		for at := range len(text) + 1 {
			parses(t, p, text[:at])
			parses(t, p, text[at:])
			for _, in := range []string{" ", "  ", ".", "0", "00", "1", "2", "6", "a", "A", "c", "f", "g", "P", "S", " ADD", "ADD ", " PUSH1 ", ".0c ", " .0c", " 00", "\n", "\x00", "\xff", "é", "\u00a0"} {
				parses(t, p, text[:at]+in+text[at:])
				if at < len(text) {
					parses(t, p, text[:at]+in+text[at+1:])
				}
			}
			if at < len(text) {
				parses(t, p, text[:at]+text[at+1:])
				parses(t, p, text[:at]+strings.ToLower(text[at:at+1])+text[at+1:])
				parses(t, p, text[:at]+strings.ToUpper(text[at:at+1])+text[at+1:])
			}
		}
	}
}

// P11.3: of all rows of a few words, and of words cut to pieces, those are read that are texts.
func TestRowsOfWords(t *testing.T) {
	p := newPlain()
	words := []string{"", "ADD", "PUSH1", "PUSH2", "DUP1", ".0c", ".01", "01", "0102", "5", "5B", "add", "."}
	row := []string{}
	var all func(n int)
	all = func(n int) {
		parses(t, p, strings.Join(row, " "))
		if n == 0 {
			return
		}
		for _, word := range words {
			row = append(row, word)
			all(n - 1)
			row = row[:len(row)-1]
		}
	}
	all(4)
}

// P11.4: what is put behind a program of which nothing is cut off changes none of its places to jump to, and is read as by itself.
func TestBehindAProgram(t *testing.T) {
	p := newPlain()
	d := dice{seed: 17}
	tried := 0
	for tried < 500 {
		b := d.program(100)
		if cut := p.text(append(slices.Clone(b), 0x5b)); !strings.HasSuffix(cut, "JUMPDEST") {
			continue
		}
		tried++
		behind := d.program(100)
		both := append(slices.Clone(b), behind...)
		want := code.Jumps(b)
		for _, place := range code.Jumps(behind) {
			want = append(want, len(b)+place)
		}
		if have := code.Jumps(both); !slices.Equal(have, want) {
			t.Errorf("%x, behind it %x: %v, should be %v", b, behind, have, want)
		}
		for at := range both {
			if have, want := code.Jump(both, uint64(at)), slices.Contains(want, at); have != want {
				t.Errorf("%x, behind it %x: Jump at %d: %v", b, behind, at, have)
			}
		}
		for at := range b {
			if !bytes.Equal(code.Data(b, at), code.Data(both, at)) {
				t.Errorf("%x, behind it %x: Data at %d", b, behind, at)
			}
		}
	}
}

// P11.4: each place is read once, as an operation or as data: a JUMPDEST that is put there is a place to jump to, or a byte of just one operation's data.
func TestEachPlaceOnce(t *testing.T) {
	p := newPlain()
	d := dice{seed: 19}
	for i := range 60 {
		b := d.program(mostBytes)
		marks := p.isData(b)
		for at := range b {
			one, other := slices.Clone(b), slices.Clone(b)
			one[at], other[at] = 0x5b, 0x00
			if code.Jump(one, uint64(at)) == marks[at] || code.Jump(other, uint64(at)) {
				t.Errorf("thrown %d, at %d: data is %v", i, at, marks[at])
			}
			readers := 0
			for place := range b {
				// What stands at the place itself is another operation then, with other data.
				if place != at && marks[at] && !bytes.Equal(code.Data(one, place), code.Data(other, place)) {
					readers++
				}
			}
			if want := map[bool]int{true: 1}[marks[at]]; readers != want {
				t.Errorf("thrown %d, at %d: data of %d operations", i, at, readers)
			}
		}
	}
}

// R3: what is handed in stays as it is, the room behind its end, too, and shares nothing with what is answered.
func TestHandedInStays(t *testing.T) {
	for name, b := range some() {
		wide := append(slices.Clone(b), bytes.Repeat([]byte{0x60, 0x5b}, 20)...)
		was := slices.Clone(wide)
		given := wide[:len(b)]
		code.Check(given)
		jumps, text := code.Jumps(given), must(code.Text(given))
		for at := -1; at <= len(b); at++ {
			code.Jump(given, uint64(at))
			data := code.Data(given, at)
			wasData := slices.Clone(data)
			spoil(data)
			if again := code.Data(given, at); !bytes.Equal(again, wasData) {
				t.Errorf("%s: Data at %d changes with what came", name, at)
			}
		}
		wasJumps := slices.Clone(jumps)
		spoil(jumps)
		if again := code.Jumps(given); !bytes.Equal(wide, was) || !slices.Equal(again, wasJumps) {
			t.Errorf("%s: what was handed in is changed", name)
		}
		parsed := must(code.Parse(text))
		spoil(parsed)
		if again := must(code.Parse(text)); !bytes.Equal(again, b) {
			t.Errorf("%s: what is parsed changes with what came", name)
		}
	}
}

// R3: what came does not change with what was handed in; nor does what stands behind a list's end count.
func TestNotKept(t *testing.T) {
	b := unhex("5b 61 5b")
	wide := append(slices.Clone(b), 0x5b, 0x5b)
	given := wide[:len(b)]
	jumps, data, text := code.Jumps(given), code.Data(given, 1), must(code.Text(given))
	spoil(wide)
	if !slices.Equal(jumps, []int{0}) || !bytes.Equal(data, unhex("5b 00")) || text != "JUMPDEST PUSH2 5b" {
		t.Errorf("%v, %x, %q", jumps, data, text)
	}
	letters := []byte("PUSH1 05 ADD")
	parsed := must(code.Parse(string(letters)))
	spoil(letters)
	if !bytes.Equal(parsed, unhex("60 05 01")) {
		t.Errorf("%x", parsed)
	}
}

// R3: nil and empty lists are one.
func TestNilAndEmpty(t *testing.T) {
	for name, b := range map[string][]byte{"nil": nil, "empty": {}, "empty, with room": unhex("5b 60")[:0]} {
		text, err := code.Text(b)
		if text != "" || err != api.OK || code.Check(b) != api.OK || len(code.Jumps(b)) != 0 || code.Jump(b, 0) || len(code.Data(b, 0)) != 0 {
			t.Errorf("%s: %q, %d", name, text, err)
		}
	}
	if b, err := code.Parse(""); len(b) != 0 || err != api.OK {
		t.Errorf("Parse of the empty text: %x, %d", b, err)
	}
}

// R5: the same is answered of the same, however often it is asked.
func TestAgain(t *testing.T) {
	ops := tableOps()
	for range 3 {
		for c := range 256 {
			op, err := code.Of(byte(c))
			named, errNamed := code.Named(op.Name)
			if want, there := ops[byte(c)]; op != want || (err == api.OK) != there || named != op || errNamed != err {
				t.Errorf("%x: %v, %v", c, op, named)
			}
		}
	}
}

// must answers what came without an error.
func must[T any](x T, err api.Errno) T {
	if err != api.OK {
		panic(strconv.Itoa(int(err)))
	}
	return x
}

// spoil changes each number of a list, in the room behind its end, too.
func spoil[T ~int | ~byte](l []T) {
	l = l[:cap(l)]
	for i := range l {
		l[i] ^= 0x5a
	}
}
