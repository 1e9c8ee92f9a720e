package octet_test

import (
	"bytes"
	"math"
	"strconv"
	"testing"

	"sheafer/api"
	"sheafer/octet"
)

// answer is what a call that makes a row answers.
type answer struct {
	row []byte
	err api.Errno
}

func got(row []byte, err api.Errno) answer {
	return answer{row, err}
}

func fine(row ...byte) answer {
	return answer{row, api.OK}
}

func wrong(err api.Errno) answer {
	return answer{nil, err}
}

// hold fails unless both answers are the same; beside an error there is no row.
func hold(t *testing.T, name string, have, want answer) {
	t.Helper()
	if have.err != want.err || !bytes.Equal(have.row, want.row) {
		t.Errorf("%s: %v, %d; should be %v, %d", name, have.row, have.err, want.row, want.err)
	}
}

// counted is n bytes that are unlike their neighbours, none of them a nought.
func counted(n int) []byte {
	row := make([]byte, n)
	for i := range row {
		row[i] = byte(i%255 + 1)
	}
	return row
}

// noughts is n noughts.
func noughts(n int) []byte {
	return make([]byte, n)
}

func joined(parts ...[]byte) []byte {
	return bytes.Join(parts, nil)
}

// rows are rows of all shapes that the promises tell apart.
func rows() [][]byte {
	return [][]byte{
		nil, {}, {0}, {7}, {0, 0}, {0, 9}, {9, 0}, {0, 0, 5, 0}, {1, 2, 3},
		{1, 2, 3, 4, 5, 6, 7}, {1, 2, 3, 4, 5, 6, 7, 8}, {1, 2, 3, 4, 5, 6, 7, 8, 9},
		{255, 255, 255, 255, 255, 255, 255, 255}, {5, 0, 0, 0, 0, 0, 0, 0, 0},
		{0, 0, 0, 0, 0, 0, 0, 0, 0, 0, 0}, counted(40),
		counted(api.MaxRow - 1), counted(api.MaxRow),
	}
}

// P1.1
func TestWindow(t *testing.T) {
	full, long := counted(api.MaxRow), counted(api.MaxRow+9)
	for name, q := range map[string]struct {
		b    []byte
		from uint64
		n    int
		want answer
	}{
		"over the end":               {[]byte{1, 2, 3}, 1, 4, fine(2, 3, 0, 0)},
		"at the highest place":       {[]byte{1}, math.MaxUint64, 2, fine(0, 0)},
		"too long, of no bytes":      {nil, 0, 4097, wrong(api.ErrLong)},
		"inside":                     {[]byte{1, 2, 3, 4}, 1, 2, fine(2, 3)},
		"the whole row":              {[]byte{1, 2, 3}, 0, 3, fine(1, 2, 3)},
		"up to the end":              {[]byte{1, 2, 3}, 2, 1, fine(3)},
		"from the end on":            {[]byte{1, 2, 3}, 3, 2, fine(0, 0)},
		"behind the end":             {[]byte{1, 2, 3}, 4, 1, fine(0)},
		"of no bytes":                {nil, 0, 3, fine(0, 0, 0)},
		"no bytes wide":              {[]byte{1, 2, 3}, 1, 0, fine()},
		"no bytes wide, far off":     {[]byte{1, 2, 3}, math.MaxUint64, 0, fine()},
		"far off, low bits in reach": {[]byte{1, 2, 3}, 1 << 32, 2, fine(0, 0)},
		"far off, highest bit":       {[]byte{1, 2, 3}, 1 << 63, 2, fine(0, 0)},
		"goes round nowhere":         {[]byte{1, 2, 3}, math.MaxUint64 - 1, 5, fine(0, 0, 0, 0, 0)},
		"as wide as may be":          {full, 0, api.MaxRow, fine(full...)},
		"as wide as may be, shifted": {full, 1, api.MaxRow, fine(joined(full[1:], noughts(1))...)},
		"of a longer row":            {long, api.MaxRow + 7, 3, fine(long[api.MaxRow+7], long[api.MaxRow+8], 0)},
		"one too wide":               {full, 0, api.MaxRow + 1, wrong(api.ErrLong)},
		"as wide as numbers go":      {full, 0, math.MaxInt, wrong(api.ErrLong)},
		"below 0":                    {full, 0, -1, wrong(api.ErrArg)},
		"far below 0":                {nil, math.MaxUint64, math.MinInt, wrong(api.ErrArg)},
	} {
		hold(t, name, got(octet.Window(q.b, q.from, q.n)), q.want)
	}
}

// P1.2
func TestOver(t *testing.T) {
	full, long := counted(api.MaxRow), counted(api.MaxRow+1)
	for name, q := range map[string]struct {
		b    []byte
		at   uint64
		x    []byte
		want answer
	}{
		"over the end":                {[]byte{1, 2, 3}, 2, []byte{8, 9}, fine(1, 2, 8, 9)},
		"with noughts between":        {[]byte{1}, 3, []byte{7}, fine(1, 0, 0, 7)},
		"nothing, far off":            {[]byte{1}, 1 << 63, nil, fine(1)},
		"inside":                      {[]byte{1, 2, 3, 4}, 1, []byte{8, 9}, fine(1, 8, 9, 4)},
		"at the beginning":            {[]byte{1, 2, 3}, 0, []byte{8}, fine(8, 2, 3)},
		"over all":                    {[]byte{1, 2}, 0, []byte{7, 8, 9}, fine(7, 8, 9)},
		"at the end":                  {[]byte{1, 2}, 2, []byte{9}, fine(1, 2, 9)},
		"over no bytes":               {nil, 0, []byte{9}, fine(9)},
		"over no bytes, farther on":   {nil, 2, []byte{9, 8}, fine(0, 0, 9, 8)},
		"noughts":                     {[]byte{1, 2, 3}, 1, []byte{0, 0, 0}, fine(1, 0, 0, 0)},
		"nothing, inside":             {[]byte{1, 2, 3}, 1, []byte{}, fine(1, 2, 3)},
		"nothing, behind the end":     {[]byte{1, 2, 3}, 5, nil, fine(1, 2, 3)},
		"nothing, over nothing":       {nil, math.MaxUint64, nil, fine()},
		"nothing, over a long row":    {long, 0, nil, fine(long...)},
		"up to the limit":             {[]byte{1}, api.MaxRow - 1, []byte{9}, fine(joined([]byte{1}, noughts(api.MaxRow-2), []byte{9})...)},
		"all of the limit":            {nil, 0, full, fine(full...)},
		"one byte of a full row":      {full, 0, []byte{0}, fine(joined([]byte{0}, full[1:])...)},
		"from the limit on":           {nil, api.MaxRow, []byte{9}, wrong(api.ErrLong)},
		"one over the limit":          {nil, api.MaxRow - 1, []byte{8, 9}, wrong(api.ErrLong)},
		"one byte too many":           {nil, 0, long, wrong(api.ErrLong)},
		"a long row":                  {long, 0, []byte{9}, wrong(api.ErrLong)},
		"at the highest place":        {nil, math.MaxUint64, []byte{9}, wrong(api.ErrLong)},
		"a sum that goes round":       {nil, math.MaxUint64, []byte{8, 9}, wrong(api.ErrLong)},
		"a sum that goes round to 10": {nil, math.MaxUint64 - 9, counted(20), wrong(api.ErrLong)},
		"a place of 63 bits":          {nil, math.MaxInt64, []byte{9}, wrong(api.ErrLong)},
		"a place with low bits 0":     {[]byte{1}, 1 << 32, []byte{9}, wrong(api.ErrLong)},
	} {
		hold(t, name, got(octet.Over(q.b, q.at, q.x)), q.want)
	}
}

// P1.3: Ahead and Behind.
func TestAheadBehind(t *testing.T) {
	full, long := counted(api.MaxRow), counted(api.MaxRow+1)
	for name, q := range map[string]struct {
		b             []byte
		n             int
		ahead, behind answer
	}{
		"two noughts":           {[]byte{7}, 3, fine(0, 0, 7), fine(7, 0, 0)},
		"two bytes":             {[]byte{1, 2}, 3, fine(0, 1, 2), fine(1, 2, 0)},
		"just as long":          {[]byte{1, 2}, 2, fine(1, 2), fine(1, 2)},
		"noughts of its own":    {[]byte{0, 5, 0}, 5, fine(0, 0, 0, 5, 0), fine(0, 5, 0, 0, 0)},
		"of no bytes":           {nil, 2, fine(0, 0), fine(0, 0)},
		"nothing of nothing":    {nil, 0, fine(), fine()},
		"up to the limit":       {[]byte{7}, api.MaxRow, fine(joined(noughts(api.MaxRow-1), []byte{7})...), fine(joined([]byte{7}, noughts(api.MaxRow-1))...)},
		"a full row":            {full, api.MaxRow, fine(full...), fine(full...)},
		"one too short":         {[]byte{1, 2}, 1, wrong(api.ErrArg), wrong(api.ErrArg)},
		"no room":               {[]byte{1}, 0, wrong(api.ErrArg), wrong(api.ErrArg)},
		"noughts take room too": {[]byte{0}, 0, wrong(api.ErrArg), wrong(api.ErrArg)},
		"below 0":               {nil, -1, wrong(api.ErrArg), wrong(api.ErrArg)},
		"far below 0":           {[]byte{1}, math.MinInt, wrong(api.ErrArg), wrong(api.ErrArg)},
		"one too long":          {nil, api.MaxRow + 1, wrong(api.ErrLong), wrong(api.ErrLong)},
		"as long as can be":     {[]byte{7}, math.MaxInt, wrong(api.ErrLong), wrong(api.ErrLong)},
		"a long row as it is":   {long, api.MaxRow + 1, wrong(api.ErrLong), wrong(api.ErrLong)},
		"a long row cut":        {long, api.MaxRow, wrong(api.ErrArg), wrong(api.ErrArg)},
		"both are wrong":        {counted(api.MaxRow + 3), api.MaxRow + 2, wrong(api.ErrArg), wrong(api.ErrArg)},
	} {
		hold(t, "Ahead: "+name, got(octet.Ahead(q.b, q.n)), q.ahead)
		hold(t, "Behind: "+name, got(octet.Behind(q.b, q.n)), q.behind)
	}
}

// P1.3: Bare.
func TestBare(t *testing.T) {
	long := counted(api.MaxRow + 5)
	for name, q := range map[string]struct{ b, want []byte }{
		"noughts on both sides": {[]byte{0, 0, 5, 0}, []byte{5, 0}},
		"noughts inside":        {[]byte{0, 1, 0, 2}, []byte{1, 0, 2}},
		"no noughts":            {[]byte{1, 2}, []byte{1, 2}},
		"noughts alone":         {[]byte{0, 0, 0}, nil},
		"one nought":            {[]byte{0}, nil},
		"no bytes":              {nil, nil},
		"the last one alone":    {[]byte{0, 0, 1}, []byte{1}},
		"a long row":            {joined(noughts(3), long), long},
	} {
		hold(t, name, fine(octet.Bare(q.b)...), fine(q.want...))
	}
}

// P1.4: Equal.
func TestEqual(t *testing.T) {
	long, other := counted(api.MaxRow+5), counted(api.MaxRow+5)
	other[api.MaxRow+4]++
	for name, q := range map[string]struct {
		a, b []byte
		want bool
	}{
		"the same":                {[]byte{1, 2}, []byte{1, 2}, true},
		"nil and nil":             {nil, nil, true},
		"nil and empty":           {nil, []byte{}, true},
		"noughts behind":          {[]byte{1}, []byte{1, 0}, false},
		"noughts ahead":           {[]byte{1}, []byte{0, 1}, false},
		"a nought and no bytes":   {[]byte{0}, nil, false},
		"the last one is unlike":  {[]byte{1, 2, 3}, []byte{1, 2, 4}, false},
		"the first one is unlike": {[]byte{1, 2, 3}, []byte{0, 2, 3}, false},
		"in another order":        {[]byte{1, 2}, []byte{2, 1}, false},
		"a beginning":             {[]byte{1, 2, 3}, []byte{1, 2}, false},
		"long rows":               {long, counted(api.MaxRow + 5), true},
		"long rows, unlike":       {long, other, false},
	} {
		if octet.Equal(q.a, q.b) != q.want || octet.Equal(q.b, q.a) != q.want {
			t.Errorf("%s: should be %v", name, q.want)
		}
	}
}

// P1.4: Noughts.
func TestNoughts(t *testing.T) {
	for name, q := range map[string]struct {
		b             []byte
		none, nonzero int
	}{
		"both kinds":    {[]byte{0, 7, 0}, 2, 1},
		"no bytes":      {nil, 0, 0},
		"noughts alone": {[]byte{0, 0, 0}, 3, 0},
		"no noughts":    {[]byte{1, 255, 128, 16}, 0, 4},
		"a long row":    {joined(noughts(5000), counted(6000)), 5000, 6000},
	} {
		if n, m := octet.Noughts(q.b); n != q.none || m != q.nonzero {
			t.Errorf("%s: %d, %d; should be %d, %d", name, n, m, q.none, q.nonzero)
		}
	}
}

// P1.5: Put64.
func TestPut64(t *testing.T) {
	long := counted(api.MaxRow)
	for name, q := range map[string]struct {
		b    []byte
		x    uint64
		want []byte
	}{
		"behind a byte":     {[]byte{9}, 258, []byte{9, 0, 0, 0, 0, 0, 0, 1, 2}},
		"behind no bytes":   {nil, 1, []byte{0, 0, 0, 0, 0, 0, 0, 1}},
		"a nought":          {[]byte{0}, 0, []byte{0, 0, 0, 0, 0, 0, 0, 0, 0}},
		"each byte its own": {nil, 0x0102030405060708, []byte{1, 2, 3, 4, 5, 6, 7, 8}},
		"the greatest":      {[]byte{1}, math.MaxUint64, []byte{1, 255, 255, 255, 255, 255, 255, 255, 255}},
		"the highest bit":   {nil, 1 << 63, []byte{128, 0, 0, 0, 0, 0, 0, 0}},
		"behind a long row": {long, 258, joined(long, []byte{0, 0, 0, 0, 0, 0, 1, 2})},
	} {
		hold(t, name, fine(octet.Put64(q.b, q.x)...), fine(q.want...))
	}
}

// P1.5: U64.
func TestU64(t *testing.T) {
	for name, q := range map[string]struct {
		b    []byte
		want uint64
	}{
		"two bytes":        {[]byte{1, 2}, 258},
		"no bytes":         {nil, 0},
		"noughts behind":   {[]byte{1, 0}, 256},
		"noughts ahead":    {[]byte{0, 0, 1}, 1},
		"seven bytes":      {[]byte{1, 2, 3, 4, 5, 6, 7}, 0x01020304050607},
		"eight bytes":      {[]byte{1, 2, 3, 4, 5, 6, 7, 8}, 0x0102030405060708},
		"nine bytes":       {[]byte{9, 1, 2, 3, 4, 5, 6, 7, 8}, 0x0102030405060708},
		"the greatest":     {[]byte{1, 255, 255, 255, 255, 255, 255, 255, 255}, math.MaxUint64},
		"ahead of noughts": {[]byte{5, 0, 0, 0, 0, 0, 0, 0, 0}, 0},
		"a long row":       {joined(counted(5000), []byte{0, 0, 0, 0, 0, 0, 1, 2}), 258},
	} {
		if x := octet.U64(q.b); x != q.want {
			t.Errorf("%s: %d; should be %d", name, x, q.want)
		}
	}
}

// window is a window that has no error.
func window(t *testing.T, b []byte, from uint64, n int) []byte {
	t.Helper()
	row, err := octet.Window(b, from, n)
	if err != api.OK {
		t.Fatalf("a window of %d bytes: %d", n, err)
	}
	return row
}

// P1.6: what was laid over is what its window shows; all other windows are what they were.
func TestWindowsOfOver(t *testing.T) {
	for _, b := range rows() {
		for _, x := range rows() {
			for _, at := range []uint64{0, 1, 2, 7, 8, 41, 100, api.MaxRow - 1} {
				row, err := octet.Over(b, at, x)
				if err != api.OK {
					continue
				}
				name := strconv.Itoa(len(b)) + " bytes, from " + strconv.FormatUint(at, 10) + " on " + strconv.Itoa(len(x))
				end := at + uint64(len(x))
				hold(t, name+", its window", fine(window(t, row, at, len(x))...), fine(x...))
				hold(t, name+", ahead of it", fine(window(t, row, 0, int(at))...), fine(window(t, b, 0, int(at))...))
				hold(t, name+", behind it", fine(window(t, row, end, api.MaxRow)...), fine(window(t, b, end, api.MaxRow)...))
			}
		}
	}
}

// P1.6: windows side by side are one window.
func TestWindowsSideBySide(t *testing.T) {
	for _, b := range rows() {
		for _, from := range []uint64{0, 1, 3, 8, 39, 4000, 1 << 40} {
			for _, n := range []int{0, 1, 4, 9, 60} {
				for _, m := range []int{0, 1, 5, 8, 90} {
					one := window(t, b, from, n+m)
					two := joined(window(t, b, from, n), window(t, b, from+uint64(n), m))
					hold(t, "side by side", fine(two...), fine(one...))
				}
			}
		}
	}
}

// P1.6: U64 of Put64 is the number, whatever stands ahead; of Ahead and Bare the number is that of the row.
func TestNumbersStay(t *testing.T) {
	for _, b := range rows() {
		for _, x := range []uint64{0, 1, 255, 256, 1 << 32, 0x0102030405060708, 1 << 63, math.MaxUint64} {
			if y := octet.U64(octet.Put64(b, x)); y != x {
				t.Errorf("behind %d bytes %d is %d", len(b), x, y)
			}
		}
		number := octet.U64(b)
		if y := octet.U64(octet.Bare(b)); y != number {
			t.Errorf("Bare of %d bytes: %d; should be %d", len(b), y, number)
		}
		for _, n := range []int{len(b), len(b) + 1, len(b) + 9, api.MaxRow} {
			row, err := octet.Ahead(b, n)
			if err == api.OK && octet.U64(row) != number {
				t.Errorf("Ahead of %d bytes: %d; should be %d", len(b), octet.U64(row), number)
			}
		}
	}
}

// P1.6: Noughts of two rows together are those of both.
func TestNoughtsTogether(t *testing.T) {
	for _, a := range rows() {
		for _, b := range rows() {
			n1, m1 := octet.Noughts(a)
			n2, m2 := octet.Noughts(b)
			if n, m := octet.Noughts(joined(a, b)); n != n1+n2 || m != m1+m2 {
				t.Errorf("%d and %d bytes: %d, %d", len(a), len(b), n, m)
			}
		}
	}
}

// R3: what is handed in stays, the room behind its end, too, and shares no memory with what is answered.
func TestRowsAreNew(t *testing.T) {
	for name, does := range map[string]func(b, x []byte) []byte{
		"Window":         func(b, _ []byte) []byte { row, _ := octet.Window(b, 0, len(b)); return row },
		"Window, inside": func(b, _ []byte) []byte { row, _ := octet.Window(b, 1, 2); return row },
		"Over":           func(b, x []byte) []byte { row, _ := octet.Over(b, 1, x); return row },
		"Over the end":   func(b, x []byte) []byte { row, _ := octet.Over(b, 3, x); return row },
		"Over no bytes":  func(_, x []byte) []byte { row, _ := octet.Over(nil, 0, x); return row },
		"Over, nothing":  func(b, _ []byte) []byte { row, _ := octet.Over(b, 0, nil); return row },
		"Ahead":          func(b, _ []byte) []byte { row, _ := octet.Ahead(b, 4); return row },
		"Ahead, more":    func(b, _ []byte) []byte { row, _ := octet.Ahead(b, 6); return row },
		"Behind":         func(b, _ []byte) []byte { row, _ := octet.Behind(b, 4); return row },
		"Behind, more":   func(b, _ []byte) []byte { row, _ := octet.Behind(b, 6); return row },
		"Bare":           func(b, _ []byte) []byte { return octet.Bare(b) },
		"Put64":          func(b, _ []byte) []byte { return octet.Put64(b, math.MaxUint64) },
	} {
		b, x := counted(30), counted(30)
		row := does(b[:4], x[:2])
		for i := range row[:cap(row)] {
			row[:cap(row)][i] = 0xEE
		}
		if !bytes.Equal(b, counted(30)) || !bytes.Equal(x, counted(30)) {
			t.Errorf("%s: what was handed in is %v and %v now", name, b, x)
		}
	}
}

// R3: what is answered does not change with what was handed in.
func TestRowsAreNotKept(t *testing.T) {
	b, x, begun := counted(4), counted(2), []byte{0, 0, 5, 0}
	over, _ := octet.Over(b, 1, x)
	whole, bare := octet.Bare(b), octet.Bare(begun)
	clear(b)
	clear(x)
	clear(begun)
	hold(t, "Over", fine(over...), fine(1, 1, 2, 4))
	hold(t, "Bare of the whole row", fine(whole...), fine(1, 2, 3, 4))
	hold(t, "Bare", fine(bare...), fine(5, 0))
}
