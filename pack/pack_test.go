package pack_test

import (
	"bytes"
	"encoding/binary"
	"encoding/hex"
	"math"
	"slices"
	"strconv"
	"strings"
	"testing"

	"sheafer/api"
	"sheafer/pack"
)

// wide is how many bytes a word has.
const wide = 32

// counted is n bytes, none of which is 0.
func counted(n int) []byte {
	b := make([]byte, n)
	for i := range b {
		b[i] = byte(i%251 + 1)
	}
	return b
}

// one is the part that is the word of that number.
func one(n uint64) api.Part {
	return api.Part{Word: api.Word{n}}
}

// long is the part of these bytes.
func long(b ...byte) api.Part {
	return api.Part{Long: true, Data: b}
}

// many is n parts like p.
func many(n int, p api.Part) []api.Part {
	return slices.Repeat([]api.Part{p}, n)
}

// form tells which parts are Long.
func form(l []api.Part) []bool {
	f := make([]bool, len(l))
	for i, p := range l {
		f[i] = p.Long
	}
	return f
}

// forms are all forms of at most n parts.
func forms(n int) [][]bool {
	all := [][]bool{{}}
	for from := 0; n > 0; n-- {
		end := len(all)
		for _, f := range all[from:end] {
			all = append(all, append(slices.Clone(f), false), append(slices.Clone(f), true))
		}
		from = end
	}
	return all
}

// most is the greatest word.
func most() api.Word {
	return api.Word{math.MaxUint64, math.MaxUint64, math.MaxUint64, math.MaxUint64}
}

// lists are parts that may be: none, words, bytes at all edges, both in turn, and as many as there may be.
func lists() [][]api.Part {
	all := [][]api.Part{
		nil,
		{one(0)}, {one(7)}, {{Word: most()}}, {{Word: api.Word{1, 2, 3, 4}}}, {one(32)}, {one(64)}, {one(32), one(0)},
		{one(1), one(2)}, {one(2), one(1)}, {long(), long()}, {long(0)}, {long(0, 0)}, {long(0), long()}, {long(), long(0)},
		{long(1), long(2)}, {long(2), long(1)}, {long(1, 0)}, {long(0, 1)}, {long(1, 2, 3), one(5)}, {one(5), long(1, 2, 3)},
		{one(1), long(counted(33)...), {Word: most()}, long(), long(counted(200)...), one(0), long(0)},
		many(api.MaxParts, one(9)), many(api.MaxParts, long()), many(api.MaxParts, long(counted(api.MaxData)...)),
	}
	for _, n := range []int{0, 1, 2, 3, 30, 31, 32, 33, 63, 64, 65, 95, 96, 97, 127, 128, 129, 191, 192, 193, 199, 200} {
		all = append(all,
			[]api.Part{long(counted(n)...)}, []api.Part{long(make([]byte, n)...)}, []api.Part{long(bytes.Repeat([]byte{255}, n)...)},
			[]api.Part{long(counted(n)...), one(1), long(counted(200 - n)...)},
		)
	}
	var turns []api.Part
	for i := range api.MaxParts / 2 {
		turns = append(turns, one(uint64(i)), long(counted(25*i)...))
	}
	return append(all, turns)
}

// mayNot are parts that may not be, and what Check says of them.
func mayNot() map[string]struct {
	l    []api.Part
	want api.Errno
} {
	type wrong = struct {
		l    []api.Part
		want api.Errno
	}
	all := map[string]wrong{
		"a word with a byte":                 {[]api.Part{{Word: api.Word{7}, Data: []byte{1}}}, api.ErrPart},
		"a word with a nought":               {[]api.Part{{Word: api.Word{7}, Data: []byte{0}}}, api.ErrPart},
		"a word of 0 with bytes":             {[]api.Part{{Data: counted(3)}}, api.ErrPart},
		"a word with too many bytes":         {[]api.Part{{Data: counted(201)}}, api.ErrPart},
		"bytes with a word":                  {[]api.Part{{Long: true, Word: api.Word{1}, Data: []byte{1}}}, api.ErrPart},
		"no bytes, with a word":              {[]api.Part{{Long: true, Word: api.Word{1}}}, api.ErrPart},
		"bytes with a word's second limb":    {[]api.Part{{Long: true, Word: api.Word{0, 1}}}, api.ErrPart},
		"bytes with a word's third limb":     {[]api.Part{{Long: true, Word: api.Word{0, 0, 1}}}, api.ErrPart},
		"bytes with a word's last limb":      {[]api.Part{{Long: true, Word: api.Word{0, 0, 0, 1 << 63}}}, api.ErrPart},
		"one byte too many":                  {[]api.Part{long(counted(api.MaxData + 1)...)}, api.ErrPart},
		"one nought too many":                {[]api.Part{long(make([]byte, api.MaxData+1)...)}, api.ErrPart},
		"256 bytes too many":                 {[]api.Part{long(make([]byte, api.MaxData+256)...)}, api.ErrPart},
		"many bytes too many":                {[]api.Part{long(make([]byte, 1<<20)...)}, api.ErrPart},
		"one word too many":                  {many(api.MaxParts+1, one(0)), api.ErrLong},
		"one of bytes too many":              {many(api.MaxParts+1, long()), api.ErrLong},
		"far too many":                       {many(5000, one(1)), api.ErrLong},
		"too many, one of which may not be":  {append(many(api.MaxParts, one(1)), api.Part{Data: []byte{1}}), api.ErrLong},
		"too many, none of which may be":     {many(api.MaxParts+1, api.Part{Data: []byte{1}}), api.ErrLong},
		"too many, the first may not be":     {append([]api.Part{{Data: []byte{1}}}, many(api.MaxParts, one(1))...), api.ErrLong},
		"as many as may be, none of them is": {many(api.MaxParts, api.Part{Data: []byte{1}}), api.ErrPart},
	}
	for place := range api.MaxParts {
		l := many(api.MaxParts, long(1))
		l[place].Word = api.Word{1}
		all["wrong at the place "+strconv.Itoa(place)] = wrong{l, api.ErrPart}
	}
	return all
}

// laid are the bytes of parts as the chapter says them, heads and tails each for themselves.
func laid(l ...api.Part) []byte {
	var heads, tails []byte
	for _, p := range l {
		if !p.Long {
			for i := range p.Word {
				heads = binary.BigEndian.AppendUint64(heads, p.Word[len(p.Word)-1-i])
			}
			continue
		}
		heads = append(heads, number(wide*len(l)+len(tails))...)
		tails = append(tails, number(len(p.Data))...)
		tails = append(tails, p.Data...)
		for len(tails)%wide != 0 {
			tails = append(tails, 0)
		}
	}
	return append(heads, tails...)
}

// number is n as 32 bytes.
func number(n int) []byte {
	return binary.BigEndian.AppendUint64(make([]byte, wide-8), uint64(n))
}

// told are the parts that b would be of, if it is of any: they are read without a look at most of what it says, and then laid again.
func told(b []byte, long ...bool) ([]api.Part, bool) {
	at := wide * len(long)
	if len(b) < at {
		return nil, false
	}
	var l []api.Part
	for i, isLong := range long {
		p := api.Part{Long: isLong}
		if !isLong {
			for limb := range p.Word {
				p.Word[limb] = binary.BigEndian.Uint64(b[wide*i+wide-8*(limb+1):])
			}
			l = append(l, p)
			continue
		}
		if len(b) < at+wide {
			return nil, false
		}
		end := at + wide + int(b[at+wide-1])
		if len(b) < end || end > at+wide+api.MaxData {
			return nil, false
		}
		p.Data = b[at+wide : end]
		l = append(l, p)
		at = (end + wide - 1) / wide * wide
	}
	return l, bytes.Equal(laid(l...), b)
}

// alike is whether both are the same parts, told without the package's own call.
func alike(a, b []api.Part) bool {
	if len(a) != len(b) {
		return false
	}
	for i, p := range a {
		if q := b[i]; p.Long != q.Long || p.Word != q.Word || string(p.Data) != string(q.Data) {
			return false
		}
	}
	return true
}

// hold fails unless what is read of b in that form are these parts.
func hold(t *testing.T, name string, b []byte, long []bool, want []api.Part) {
	t.Helper()
	if have, err := pack.Read(b, long...); err != api.OK || !alike(have, want) {
		t.Errorf("%s: %v, %d; should be %v", name, have, err, want)
	}
}

// refuse fails unless nothing is read of b in that form, and the error is that.
func refuse(t *testing.T, name string, b []byte, long []bool, want api.Errno) {
	t.Helper()
	if have, err := pack.Read(b, long...); err != want || have != nil {
		t.Errorf("%s: %v, %d; should be %d", name, have, err, want)
	}
}

// holdTold fails unless Read says of b in that form what told says.
func holdTold(t *testing.T, name string, b []byte, long []bool) {
	t.Helper()
	if want, ok := told(b, long...); ok {
		hold(t, name, b, long, want)
	} else {
		refuse(t, name, b, long, api.ErrPack)
	}
}

// P4.1: Check.
func TestCheck(t *testing.T) {
	for _, l := range lists() {
		if err := pack.Check(l); err != api.OK {
			t.Errorf("%v: %d", l, err)
		}
	}
	if err := pack.Check([]api.Part{{Data: []byte{}}, {Long: true, Data: []byte{}}}); err != api.OK {
		t.Errorf("Data that is empty: %d", err)
	}
	for name, q := range mayNot() {
		if err := pack.Check(q.l); err != q.want {
			t.Errorf("%s: %d; should be %d", name, err, q.want)
		}
	}
}

// P4.1: Same, on parts that may be and on those that may not.
func TestSame(t *testing.T) {
	all := lists()
	for _, q := range mayNot() {
		all = append(all, q.l)
	}
	for _, a := range all {
		for _, b := range all {
			if have, want := pack.Same(a, b), alike(a, b); have != want {
				t.Errorf("Same of %v, %v: %v", a, b, have)
			}
		}
	}
}

// P4.1: Same, part by part and byte by byte.
func TestSameEdges(t *testing.T) {
	for name, q := range map[string]struct {
		a, b []api.Part
		want bool
	}{
		"nil and empty":           {nil, []api.Part{}, true},
		"no Data, nil and empty":  {[]api.Part{{Long: true}}, []api.Part{{Long: true, Data: []byte{}}}, true},
		"none and one":            {nil, []api.Part{{}}, false},
		"one more":                {[]api.Part{one(1)}, []api.Part{one(1), {}}, false},
		"a word and no bytes":     {[]api.Part{{}}, []api.Part{{Long: true}}, false},
		"another order":           {[]api.Part{one(1), long(2)}, []api.Part{long(2), one(1)}, false},
		"the last byte":           {[]api.Part{long(1, 2, 3)}, []api.Part{long(1, 2, 4)}, false},
		"one nought more":         {[]api.Part{long(1, 2)}, []api.Part{long(1, 2, 0)}, false},
		"the first byte":          {[]api.Part{long(0, 2)}, []api.Part{long(1, 2)}, false},
		"the highest limb":        {[]api.Part{{Word: api.Word{3: 1}}}, []api.Part{{Word: api.Word{3: 2}}}, false},
		"the least limb":          {[]api.Part{one(1)}, []api.Part{one(2)}, false},
		"a word that may not be":  {[]api.Part{{Data: []byte{1}}}, []api.Part{{Data: []byte{1}}}, true},
		"other Data of a word":    {[]api.Part{{Data: []byte{1}}}, []api.Part{{Data: []byte{2}}}, false},
		"another word of a Long":  {[]api.Part{{Long: true, Word: api.Word{1}}}, []api.Part{{Long: true}}, false},
		"the last one of many":    {append(many(20, one(1)), one(2)), append(many(20, one(1)), one(3)), false},
		"as many, all of them":    {many(20, long(1)), many(20, long(1)), true},
		"long Data, its last one": {[]api.Part{long(counted(5000)...)}, []api.Part{long(append(counted(4999), 0)...)}, false},
	} {
		if have := pack.Same(q.a, q.b); have != q.want {
			t.Errorf("%s: %v", name, have)
		}
		if have := pack.Same(q.b, q.a); have != q.want {
			t.Errorf("%s, the other way round: %v", name, have)
		}
	}
}

// P4.2: the chapter's examples, and some that are written out byte by byte.
func TestLayWrittenOut(t *testing.T) {
	nought, fill := strings.Repeat("00", 31), func(n int) string { return strings.Repeat("00", n) }
	for name, q := range map[string]struct {
		l    []api.Part
		want string
	}{
		"no parts":        {nil, ""},
		"the word 7":      {[]api.Part{one(7)}, nought + "07"},
		"all its bytes":   {[]api.Part{{Word: api.Word{0x1819, 0x1011, 0x0809, 0x0102030405060708}}}, "0102030405060708" + "0000000000000809" + "0000000000001011" + "0000000000001819"},
		"the bytes 1 2 3": {[]api.Part{long(1, 2, 3)}, nought + "20" + nought + "03" + "010203" + fill(29)},
		"no bytes":        {[]api.Part{long()}, nought + "20" + fill(32)},
		"32 bytes":        {[]api.Part{long(bytes.Repeat([]byte{0xaa}, 32)...)}, nought + "20" + nought + "20" + strings.Repeat("aa", 32)},
		"33 bytes":        {[]api.Part{long(bytes.Repeat([]byte{0xaa}, 33)...)}, nought + "20" + nought + "21" + strings.Repeat("aa", 33) + fill(31)},
		"200 bytes":       {[]api.Part{long(bytes.Repeat([]byte{0xaa}, 200)...)}, nought + "20" + nought + "c8" + strings.Repeat("aa", 200) + fill(24)},
		"each in turn": {
			[]api.Part{long(0xaa), one(5), long(), long(0xbb, 0xcc), one(6)},
			nought + "a0" + nought + "05" + nought + "e0" + fill(30) + "0100" + nought + "06" + nought + "01" + "aa" + fill(31) + fill(32) + nought + "02" + "bbcc" + fill(30),
		},
	} {
		row, err := pack.Lay(q.l...)
		if have := hex.EncodeToString(row); have != q.want || err != api.OK || pack.Size(q.l) != len(q.want)/2 {
			t.Errorf("%s: %s, %d, %d; should be %s", name, have, err, pack.Size(q.l), q.want)
		}
		if want, _ := hex.DecodeString(q.want); !bytes.Equal(want, laid(q.l...)) {
			t.Errorf("%s: laid says otherwise", name)
		}
	}
}

// P4.2: Lay and Size of all that may be; P4.5: a Size is a multiple of 32.
func TestLay(t *testing.T) {
	for _, l := range lists() {
		row, err := pack.Lay(l...)
		if want := laid(l...); !bytes.Equal(row, want) || err != api.OK {
			t.Errorf("Lay of %v: %v, %d; should be %v", l, row, err, want)
		}
		if size := pack.Size(l); size != len(row) || size%wide != 0 {
			t.Errorf("Size of %v: %d; should be %d", l, size, len(row))
		}
	}
	if size := pack.Size(many(api.MaxParts, long(counted(api.MaxData)...))); size != 4608 {
		t.Errorf("the greatest Size: %d; should be 4608", size)
	}
}

// P4.2: of what may not be Lay tells Check's error, and nothing else; its Size is 0.
func TestLayOfWhatMayNotBe(t *testing.T) {
	for name, q := range mayNot() {
		if row, err := pack.Lay(q.l...); row != nil || err != q.want {
			t.Errorf("Lay, %s: %v, %d; should be %d", name, row, err, q.want)
		}
		if size := pack.Size(q.l); size != 0 {
			t.Errorf("Size, %s: %d; should be 0", name, size)
		}
	}
}

// P4.3: what was laid is read in its form.
func TestRead(t *testing.T) {
	for _, l := range lists() {
		hold(t, "as it was laid", laid(l...), form(l), l)
	}
	hold(t, "an empty row", []byte{}, nil, nil)
	hold(t, "an empty form", nil, []bool{}, nil)
}

// P4.3: too many that are asked for; it goes ahead of all else.
func TestReadOfTooMany(t *testing.T) {
	for _, n := range []int{api.MaxParts + 1, api.MaxParts + 2, 100, 5000} {
		for _, isLong := range []bool{false, true} {
			asked := slices.Repeat([]bool{isLong}, n)
			for name, b := range map[string][]byte{"their bytes": laid(many(n, api.Part{Long: isLong})...), "no bytes": nil, "one byte": {1}} {
				refuse(t, strconv.Itoa(n)+" of "+name, b, asked, api.ErrLong)
			}
		}
	}
	refuse(t, "as many as there may be, of no bytes", nil, make([]bool, api.MaxParts), api.ErrPack)
}

// P4.3: bytes of parts of another form.
func TestReadOfAnotherForm(t *testing.T) {
	for name, q := range map[string]struct {
		l    []api.Part
		long []bool
	}{
		"a Long as a word":         {[]api.Part{long(1, 2, 3)}, []bool{false}},
		"a Long as two words":      {[]api.Part{long(1, 2, 3)}, []bool{false, false}},
		"a Long as two":            {[]api.Part{long(1, 2, 3)}, []bool{true, true}},
		"a word as a Long":         {[]api.Part{one(7)}, []bool{true}},
		"the word 32 as a Long":    {[]api.Part{one(32)}, []bool{true}},
		"a word as two":            {[]api.Part{one(7)}, []bool{false, false}},
		"a word as none":           {[]api.Part{one(7)}, nil},
		"a Long as none":           {[]api.Part{long()}, nil},
		"two words as one":         {[]api.Part{one(1), one(2)}, []bool{false}},
		"two Longs as one":         {[]api.Part{long(1), long(2)}, []bool{true}},
		"two Longs, one as a word": {[]api.Part{long(1), long(2)}, []bool{true, false}},
		"the other one as a word":  {[]api.Part{long(1), long(2)}, []bool{false, true}},
		"none as a word":           {nil, []bool{false}},
		"none as a Long":           {nil, []bool{true}},
		"both the other way round": {[]api.Part{one(7), long(1)}, []bool{true, false}},
	} {
		refuse(t, name, laid(q.l...), q.long, api.ErrPack)
	}
	// Bytes alone do not tell their form: these are a Long's without bytes, and two words'.
	hold(t, "as a Long", laid(long()), []bool{true}, []api.Part{long()})
	hold(t, "as words", laid(long()), []bool{false, false}, []api.Part{one(32), one(0)})
	for _, l := range lists() {
		for _, f := range forms(4) {
			holdTold(t, "another form", laid(l...), f)
		}
	}
}

// P4.3: bytes that are cut off, or go on.
func TestReadOfCutOff(t *testing.T) {
	for _, l := range lists() {
		b := laid(l...)
		for n := range b {
			refuse(t, "cut off", b[:n:n], form(l), api.ErrPack)
			// What was cut off stands in the room behind the end: it does not count.
			refuse(t, "cut off, with room", b[:n], form(l), api.ErrPack)
		}
		for _, more := range [][]byte{{0}, {1}, make([]byte, 31), make([]byte, 32), make([]byte, 64), counted(32), number(32), laid(long(1)), b} {
			if len(more) > 0 {
				refuse(t, "going on", slices.Concat(b, more), form(l), api.ErrPack)
			}
			holdTold(t, "begun otherwise", slices.Concat(more, b), form(l))
		}
	}
}

// tail is a tail that says n, with these bytes, and noughts behind them up to a multiple of 32.
func tail(n []byte, data ...byte) []byte {
	row := append(slices.Clip(n), data...)
	for len(row)%wide != 0 {
		row = append(row, 0)
	}
	return row
}

// high is n as 32 bytes, with the byte at that place set besides.
func high(n, place int) []byte {
	row := number(n)
	row[place] = 1
	return row
}

// P4.3: heads, lengths and noughts that are none.
func TestReadOfWrongTails(t *testing.T) {
	three, other := tail(number(3), 1, 2, 3), tail(number(3), 4, 5, 6)
	for name, q := range map[string]struct {
		rows [][]byte
		long []bool
	}{
		"the head 0":                    {[][]byte{number(0), three}, []bool{true}},
		"the head 31":                   {[][]byte{number(31), three}, []bool{true}},
		"the head 33":                   {[][]byte{number(33), three}, []bool{true}},
		"the head 64":                   {[][]byte{number(64), three}, []bool{true}},
		"the head at the end":           {[][]byte{number(96), three}, []bool{true}},
		"the head far away":             {[][]byte{number(math.MaxInt), three}, []bool{true}},
		"the head below 0":              {[][]byte{bytes.Repeat([]byte{255}, 32), three}, []bool{true}},
		"the head 2^64 and 32":          {[][]byte{high(32, 23), three}, []bool{true}},
		"the head 2^248 and 32":         {[][]byte{high(32, 0), three}, []bool{true}},
		"the head 288":                  {[][]byte{high(32, 30), three}, []bool{true}},
		"a head behind a gap":           {[][]byte{number(64), make([]byte, 32), three}, []bool{true}},
		"a head to what is there twice": {[][]byte{number(96), three, three}, []bool{true}},
		"two heads to one tail":         {[][]byte{number(64), number(64), three}, []bool{true, true}},
		"two heads to the first":        {[][]byte{number(64), number(64), three, other}, []bool{true, true}},
		"two heads to the second":       {[][]byte{number(128), number(128), three, other}, []bool{true, true}},
		"tails in another order":        {[][]byte{number(128), number(64), three, other}, []bool{true, true}},
		"heads counted from their own":  {[][]byte{number(64), number(96), three, other}, []bool{true, true}},
		"a tail that is another's end":  {[][]byte{number(64), number(96), tail(number(32)), number(0)}, []bool{true, true}},
		"no tail":                       {[][]byte{number(32)}, []bool{true}},
		"half a length":                 {[][]byte{number(32), number(3)[:16]}, []bool{true}},
		"a length without bytes":        {[][]byte{number(32), number(3)}, []bool{true}},
		"bytes without noughts":         {[][]byte{number(32), number(3), {1, 2, 3}}, []bool{true}},
		"a nought too few":              {[][]byte{number(32), three[:63]}, []bool{true}},
		"noughts that are none":         {[][]byte{number(32), tail(number(3), 1, 2, 3, 4)}, []bool{true}},
		"the last nought is none":       {[][]byte{number(32), number(3), {1, 2, 3, 31: 1}}, []bool{true}},
		"noughts of no bytes":           {[][]byte{number(32), number(0), make([]byte, 32)}, []bool{true}},
		"noughts behind 32 bytes":       {[][]byte{number(32), number(32), counted(32), make([]byte, 32)}, []bool{true}},
		"noughts of two words":          {[][]byte{number(32), number(3), {1, 2, 3, 63: 0}}, []bool{true}},
		"a length one too great":        {[][]byte{number(32), number(33), counted(32)}, []bool{true}},
		"a length one too small":        {[][]byte{number(32), number(31), counted(32)}, []bool{true}},
		"a length of MaxData and 1":     {[][]byte{number(32), tail(number(201), counted(201)...)}, []bool{true}},
		"the same, of noughts":          {[][]byte{number(32), tail(number(201), make([]byte, 201)...)}, []bool{true}},
		"a length of 224":               {[][]byte{number(32), tail(number(224), counted(224)...)}, []bool{true}},
		"a length of 256 and 3":         {[][]byte{number(32), tail(number(259), counted(259)...)}, []bool{true}},
		"that length, of few bytes":     {[][]byte{number(32), tail(number(259), 1, 2, 3)}, []bool{true}},
		"the length 2^64 and 3":         {[][]byte{number(32), tail(high(3, 23), 1, 2, 3)}, []bool{true}},
		"the length 2^63 and 3":         {[][]byte{number(32), tail(append(append(make([]byte, 24), 128), number(3)[25:]...), 1, 2, 3)}, []bool{true}},
		"the length 2^32 and 3":         {[][]byte{number(32), tail(high(3, 27), 1, 2, 3)}, []bool{true}},
		"the length 2^248 and 3":        {[][]byte{number(32), tail(high(3, 0), 1, 2, 3)}, []bool{true}},
		"the greatest length":           {[][]byte{number(32), tail(bytes.Repeat([]byte{255}, 32), 1, 2, 3)}, []bool{true}},
		"the length 2^64 less 1":        {[][]byte{number(32), tail(append(make([]byte, 24), 255, 255, 255, 255, 255, 255, 255, 255), 1, 2, 3)}, []bool{true}},
		"the second one's length":       {[][]byte{number(64), number(128), three, tail(number(201), counted(201)...)}, []bool{true, true}},
		"the first one's takes all":     {[][]byte{number(64), number(128), tail(number(96), 1, 2, 3), other}, []bool{true, true}},
		"a word's tail":                 {[][]byte{number(7), three}, []bool{false}},
		"a word's tail, behind a Long":  {[][]byte{number(64), number(7), three, other}, []bool{true, false}},
	} {
		refuse(t, name, slices.Concat(q.rows...), q.long, api.ErrPack)
	}
	hold(t, "both, as they should be", slices.Concat(number(64), number(128), three, other), []bool{true, true}, []api.Part{long(1, 2, 3), long(4, 5, 6)})
}

// P4.3, P4.5: bytes that are changed, one at a time, are the bytes of parts just where they are laid again from these.
func TestReadOfChanged(t *testing.T) {
	read, refused := 0, 0
	for _, l := range lists() {
		b := laid(l...)
		if len(b) > 700 {
			continue
		}
		for place, was := range b {
			for _, is := range []byte{0, 1, 2, 3, 31, 32, 33, 64, 96, 128, 200, 201, 255, was + 1, was - 1, was ^ 32, was ^ 128} {
				b[place] = is
				holdTold(t, "changed", b, form(l))
				if _, ok := told(b, form(l)...); ok {
					read++
				} else {
					refused++
				}
			}
			b[place] = was
		}
	}
	if read < 1000 || refused < 1000 {
		t.Errorf("%d were read, %d refused: too few to tell", read, refused)
	}
}

// P4.3: all short rows that are made of few words, in all forms of few parts.
func TestReadOfFewWords(t *testing.T) {
	few := [][]byte{number(0), number(1), number(3), number(32), number(64), number(96), number(128), counted(32), {31: 0, 0: 1}, {31: 0, 2: 9}}
	rows := [][]byte{nil}
	for from := 0; len(rows[len(rows)-1]) < 4*wide; {
		end := len(rows)
		for _, row := range rows[from:end] {
			for _, w := range few {
				rows = append(rows, slices.Concat(row, w))
			}
		}
		from = end
	}
	for _, f := range forms(3) {
		for _, row := range rows {
			holdTold(t, "few words", row, f)
		}
	}
}

// P4.4: Of and Bytes.
func TestOfAndBytes(t *testing.T) {
	for _, w := range []api.Word{{}, {7}, {1, 2, 3, 4}, {3: 1 << 63}, most()} {
		if p := pack.Of(w); p.Long || p.Word != w || len(p.Data) > 0 {
			t.Errorf("Of %v: %v", w, p)
		}
	}
	for _, b := range [][]byte{nil, {}, {0}, {1, 2, 3}, counted(32), counted(api.MaxData), make([]byte, api.MaxData), counted(api.MaxData + 1), counted(5000)} {
		p := pack.Bytes(b)
		if !p.Long || p.Word != (api.Word{}) || !bytes.Equal(p.Data, b) {
			t.Errorf("Bytes of %v: %v", b, p)
		}
		if err, fits := pack.Check([]api.Part{p}), len(b) <= api.MaxData; fits != (err == api.OK) || !fits && err != api.ErrPart {
			t.Errorf("Check of %d bytes: %d", len(b), err)
		}
	}
}

// P4.5: Read of Lay are the parts, Lay of Read the bytes.
func TestThereAndBack(t *testing.T) {
	for _, l := range lists() {
		row, _ := pack.Lay(l...)
		back, err := pack.Read(row, form(l)...)
		if err != api.OK || !pack.Same(back, l) {
			t.Errorf("Read of Lay of %v: %v, %d", l, back, err)
		}
		again, err := pack.Lay(back...)
		if err != api.OK || !bytes.Equal(again, row) {
			t.Errorf("Lay of Read of %v: %v, %d", row, again, err)
		}
	}
}

// P4.5: parts that are not the same, of one form, have other bytes.
func TestUnlikeParts(t *testing.T) {
	type laidOnce struct{ form, row string }
	seen := map[laidOnce][]api.Part{}
	letters := []api.Part{one(0), one(1), one(32), {Word: api.Word{3: 1}}, long(), long(0), long(1), long(1, 0), long(counted(32)...), long(make([]byte, 33)...)}
	all := append(lists(), nil)
	for _, p := range letters {
		for _, q := range letters {
			all = append(all, []api.Part{p}, []api.Part{p, q})
			for _, r := range letters {
				all = append(all, []api.Part{p, q, r})
			}
		}
	}
	for _, l := range all {
		row, err := pack.Lay(l...)
		key := laidOnce{row: string(row)}
		for _, p := range l {
			key.form += strconv.FormatBool(p.Long)
		}
		if other, there := seen[key]; err != api.OK || there && !pack.Same(l, other) {
			t.Errorf("%v and %v have the same bytes, %d", l, other, err)
		}
		seen[key] = l
	}
}

// R3: what is handed in stays as it is, the room behind its end, too.
func TestPartsStay(t *testing.T) {
	data, room := counted(60), []api.Part{one(1), {Long: true}, long(7), one(9)}
	room[1].Data = data[:40]
	kept := slices.Clone(room)
	pack.Check(room[:2])
	pack.Size(room[:2])
	pack.Same(room[:2], room[1:3])
	row, _ := pack.Lay(room[:2]...)
	for i := range row[:cap(row)] {
		row[:cap(row)][i] = 0xEE
	}
	if !alike(room, kept) || !bytes.Equal(data, counted(60)) {
		t.Errorf("Lay: what was handed in is %v now, of %v", room, data)
	}
	b, asked := append(laid(room[:2]...), counted(64)...), []bool{false, true, true}
	was := slices.Clone(b)
	l, _ := pack.Read(b[:len(b)-64], asked[:2]...)
	for _, p := range l[:cap(l)] {
		for i := range p.Data[:cap(p.Data)] {
			p.Data[:cap(p.Data)][i] = 0xEE
		}
	}
	if !bytes.Equal(b, was) || !slices.Equal(asked, []bool{false, true, true}) {
		t.Errorf("Read: what was handed in is %v, %v now", b, asked)
	}
	p := pack.Bytes(data[:40])
	for i := range p.Data[:cap(p.Data)] {
		p.Data[:cap(p.Data)][i] = 0xEE
	}
	if !bytes.Equal(data, counted(60)) {
		t.Errorf("Bytes: what was handed in is %v now", data)
	}
}

// R3: what is answered does not change with what was handed in, and no two lists of it share memory.
func TestPartsAreNew(t *testing.T) {
	data := counted(40)
	p, l := pack.Bytes(data), []api.Part{long(data...), long(data...), one(3)}
	row, _ := pack.Lay(l...)
	b := laid(l...)
	read, _ := pack.Read(b, form(l)...)
	clear(data)
	clear(b)
	if !bytes.Equal(p.Data, counted(40)) {
		t.Errorf("Bytes: %v", p)
	}
	want := []api.Part{long(counted(40)...), long(counted(40)...), one(3)}
	if !bytes.Equal(row, laid(want...)) {
		t.Errorf("Lay: %v", row)
	}
	clear(read[0].Data[:cap(read[0].Data)])
	want[0] = long(make([]byte, 40)...)
	if !alike(read, want) {
		t.Errorf("Read: %v, once the first one's Data is cleared", read)
	}
}

// R1, R2: rows and forms of all lengths, with bytes by a fixed rule: each call ends, and says what told says.
func TestReadOfMixed(t *testing.T) {
	seed := uint64(11)
	for n := range 700 {
		b := make([]byte, n)
		for i := range b {
			seed = seed*6364136223846793005 + 1442695040888963407
			b[i] = byte(seed >> 56)
		}
		for m := range api.MaxParts + 1 {
			asked := make([]bool, m)
			for i := range asked {
				asked[i] = (n+i)%3 == 0
			}
			holdTold(t, "mixed", b, asked)
		}
	}
}
