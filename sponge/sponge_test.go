package sponge_test

import (
	"bytes"
	"crypto/sha3"
	"encoding/binary"
	"encoding/hex"
	"math"
	"math/bits"
	"strings"
	"testing"

	"sheafer/api"
	"sheafer/sponge"
)

// block is how many bytes are laid into the lanes at a time.
const block = 136

// numbers are n numbers by a fixed rule, so that each run has the same ones.
func numbers(n int, seed uint64) []uint64 {
	list := make([]uint64, n)
	for i := range list {
		seed += 0x9e3779b97f4a7c15
		z := seed
		z = (z ^ z>>30) * 0xbf58476d1ce4e5b9
		z = (z ^ z>>27) * 0x94d049bb133111eb
		list[i] = z ^ z>>31
	}
	return list
}

// row is n bytes by a fixed rule.
func row(n int, seed uint64) []byte {
	b := make([]byte, n)
	for i, x := range numbers(n, seed) {
		b[i] = byte(x)
	}
	return b
}

// ids are digests at the edges, and some by a fixed rule.
func ids() []api.Id {
	list := []api.Id{{}, {31: 1}, {0: 1}, {0: 0x7f}, {0: 0x80}, {0: 0xff}, {31: 0xff}, {15: 0x7f, 16: 1}, {15: 0x80}, api.Id(bytes.Repeat([]byte{255}, 32))}
	for seed := range uint64(12) {
		list = append(list, api.Id(row(32, seed)))
	}
	return list
}

// lanes are those at the edges, those of a single bit in each lane, and some by a fixed rule.
func lanes() []api.Lanes {
	var ones api.Lanes
	for i := range ones {
		ones[i] = math.MaxUint64
	}
	list := []api.Lanes{{}, ones}
	for i := range ones {
		list = append(list, bit(64*i), bit(64*i+63), bit(64*i+i))
	}
	for seed := range uint64(12) {
		list = append(list, api.Lanes(numbers(25, seed)))
	}
	return list
}

// bit is lanes of one bit that is set: that of the number n.
func bit(n int) api.Lanes {
	var l api.Lanes
	l[n/64] = 1 << (n % 64)
	return l
}

func both(a, b api.Lanes) api.Lanes {
	for i := range a {
		a[i] ^= b[i]
	}
	return a
}

// at is the number of the lane at (x, y), places going round.
func at(x, y int) int {
	return 5*((y%5+5)%5) + (x%5+5)%5
}

// mixed is Mix as the chapter says it, without its table: turns follow from the walk that goes from (1, 0) to each place but (0, 0).
func mixed(l api.Lanes) api.Lanes {
	var c [5]uint64
	for i, lane := range l {
		c[i%5] ^= lane
	}
	for i := range l {
		l[i] ^= c[(i+4)%5] ^ bits.RotateLeft64(c[(i+1)%5], 1)
	}
	next := api.Lanes{l[0]}
	x, y := 1, 0
	for t := range 24 {
		from := at(x, y)
		x, y = y, (2*x+3*y)%5
		next[at(x, y)] = bits.RotateLeft64(l[from], (t+1)*(t+2)/2)
	}
	return next
}

// gone is Rows, bit by bit.
func gone(l api.Lanes) api.Lanes {
	var next api.Lanes
	for y := range 5 {
		for x := range 5 {
			for n := range 64 {
				here, one, two := l[at(x, y)]>>n&1, l[at(x+1, y)]>>n&1, l[at(x+2, y)]>>n&1
				if one == 0 && two == 1 {
					here = 1 - here
				}
				next[at(x, y)] |= here << n
			}
		}
	}
	return next
}

// roundNumber is a round's number without the chapter's table: bits that a register of eight bits shifts out.
func roundNumber(n int) uint64 {
	number, register := uint64(0), uint(1)
	for step := range 7 * (n + 1) {
		if step >= 7*n && register&1 == 1 {
			number |= 1 << (1<<(step-7*n) - 1)
		}
		register <<= 1
		if register > 255 {
			register ^= 0x171
		}
	}
	return number
}

func rounded(l api.Lanes, n int) api.Lanes {
	l = gone(mixed(l))
	l[0] ^= roundNumber(n)
	return l
}

func permuted(l api.Lanes) api.Lanes {
	for n := range 24 {
		l = rounded(l, n)
	}
	return l
}

// pads is Pad byte after byte; first is the byte that the padding begins with.
func pads(b []byte, first byte) []byte {
	padded := append(bytes.Clone(b), first)
	for len(padded)%block != 0 {
		padded = append(padded, 0)
	}
	padded[len(padded)-1] |= 0x80
	return padded
}

// soaked is what lanes tell behind the padded bytes, block by block.
func soaked(padded []byte, permute func(api.Lanes) api.Lanes) api.Id {
	var l api.Lanes
	for ; len(padded) > 0; padded = padded[block:] {
		for i := range block / 8 {
			l[i] ^= binary.LittleEndian.Uint64(padded[8*i:])
		}
		l = permute(l)
	}
	var id []byte
	for _, lane := range l[:4] {
		id = binary.LittleEndian.AppendUint64(id, lane)
	}
	return api.Id(id)
}

func holdLanes(t *testing.T, name string, have, want api.Lanes) {
	t.Helper()
	if have != want {
		t.Errorf("%s: %x; should be %x", name, have, want)
	}
}

// P3.1: digests that are known.
func TestSumOfKnown(t *testing.T) {
	for text, want := range map[string]string{
		"":        "c5d2460186f7233c927e7db2dcc703c0e500b653ca82273b7bfad8045d85a470",
		"abc":     "4e03657aea45a94fc7d47ba826c8d667c0d1e6e33a64a036ec44f58fa12d6c45",
		"hello":   "1c8aff950685c2ed4bc3174f3472287b56d9517b9c948127319a09a7a36deac8",
		"testing": "5f16f4c7f149ac4f9510d9cf8cf384038ad348b3bcdc01915f95de12df9d1b02",
		"The quick brown fox jumps over the lazy dog": "4d741b6f1eb29cb2a9b9911c82f56fa8d73b04959d3d9d222895df6c0b28aa15",
		"Transfer(address,address,uint256)":           "ddf252ad1be2c89b69c2b068fc378daa952ba7f163c4a11628f55a4df523b3ef",
	} {
		if have := sponge.Text(sponge.Sum([]byte(text))); have != want {
			t.Errorf("Sum of %q: %s; should be %s", text, have, want)
		}
	}
	if sponge.Sum([]byte{}) != sponge.Sum(nil) {
		t.Error("Sum of nil and of no bytes is unlike")
	}
}

// P3.1: rows of all lengths around the blocks' ends, held against the plain one.
func TestSum(t *testing.T) {
	for n := range 3*block + 3 {
		for name, b := range map[string][]byte{"bytes": row(n, uint64(n)), "noughts": make([]byte, n)} {
			if have, want := sponge.Sum(b), soaked(pads(b, 1), permuted); have != want {
				t.Errorf("Sum of %d %s: %x; should be %x", n, name, have, want)
			}
		}
	}
	long := row(100000, 1)
	if have, want := sponge.Sum(long), soaked(pads(long, 1), permuted); have != want {
		t.Errorf("Sum of %d bytes: %x; should be %x", len(long), have, want)
	}
}

// P3.2: the lanes that the chapter's examples and the contest's known answers name.
func TestLanesOfNoughts(t *testing.T) {
	none := api.Lanes{}
	holdLanes(t, "Mix of noughts", sponge.Mix(none), none)
	holdLanes(t, "Rows of noughts", sponge.Rows(none), none)
	once := sponge.Permute(none)
	for i, want := range []uint64{0xf1258f7940e1dde7, 0x84d5ccf933c0478a, 0xd598261ea65aa9ee, 0xbd1547306f80494d, 0x8b284e056253d057} {
		if once[i] != want {
			t.Errorf("the lane %d of noughts permuted: %x; should be %x", i, once[i], want)
		}
	}
	if want := uint64(0xeaf1ff7b5ceca249); once[24] != want {
		t.Errorf("the last lane of noughts permuted: %x; should be %x", once[24], want)
	}
}

// P3.2: the chapter's table of turns, lane by lane. A single lane changes the columns beside its own, not its own: so it stands alone, turned, where it goes to.
func TestTurns(t *testing.T) {
	for y, turns := range [][]int{{0, 1, 62, 28, 27}, {36, 44, 6, 55, 20}, {3, 10, 43, 25, 39}, {41, 45, 15, 21, 8}, {18, 2, 61, 56, 14}} {
		for x, n := range turns {
			var l api.Lanes
			l[at(x, y)] = 1
			if have, want := sponge.Mix(l)[at(y, 2*x+3*y)], uint64(1)<<n; have != want {
				t.Errorf("the lane (%d, %d): %x; should be %x", x, y, have, want)
			}
		}
	}
}

// P3.2: both steps against the plain ones.
func TestMixAndRows(t *testing.T) {
	for _, l := range lanes() {
		holdLanes(t, "Mix", sponge.Mix(l), mixed(l))
		holdLanes(t, "Rows", sponge.Rows(l), gone(l))
	}
}

// P3.2: each round, on noughts with the chapter's table.
func TestRoundNumbers(t *testing.T) {
	for n, want := range []uint64{
		0x1, 0x8082, 0x800000000000808A, 0x8000000080008000,
		0x808B, 0x80000001, 0x8000000080008081, 0x8000000000008009,
		0x8A, 0x88, 0x80008009, 0x8000000A,
		0x8000808B, 0x800000000000008B, 0x8000000000008089, 0x8000000000008003,
		0x8000000000008002, 0x8000000000000080, 0x800A, 0x800000008000000A,
		0x8000000080008081, 0x8000000000008080, 0x80000001, 0x8000000080008008,
	} {
		l, err := sponge.Round(api.Lanes{}, n)
		holdLanes(t, "a round on noughts", l, api.Lanes{want})
		if err != api.OK || roundNumber(n) != want {
			t.Errorf("the round %d: %d, %x", n, err, roundNumber(n))
		}
	}
}

// P3.2: each round, and all of them, against the plain ones.
func TestRoundAndPermute(t *testing.T) {
	for _, l := range lanes() {
		behind := l
		for n := range 24 {
			have, err := sponge.Round(l, n)
			holdLanes(t, "Round", have, rounded(l, n))
			if err != api.OK {
				t.Errorf("the round %d: %d", n, err)
			}
			behind, _ = sponge.Round(behind, n)
		}
		holdLanes(t, "Permute", sponge.Permute(l), permuted(l))
		holdLanes(t, "Permute, round by round", sponge.Permute(l), behind)
	}
}

// P3.2: rounds that there are not.
func TestNoRound(t *testing.T) {
	for _, n := range []int{-1, 24, 25, 48, -24, 1 << 32, math.MaxInt, math.MinInt} {
		for _, l := range lanes() {
			if have, err := sponge.Round(l, n); have != (api.Lanes{}) || err != api.ErrArg {
				t.Errorf("the round %d: %x, %d; should be ErrArg", n, have, err)
			}
		}
	}
}

// P3.2: lanes permuted, under the padding that the contest's digest got later, against the library's.
func TestPermuteOfTheLibrary(t *testing.T) {
	for n := range 2*block + 3 {
		b := row(n, uint64(n))
		if have, want := soaked(pads(b, 6), sponge.Permute), sha3.Sum256(b); have != want {
			t.Errorf("%d bytes: %x; should be %x", n, have, want)
		}
	}
}

// P3.3
func TestPad(t *testing.T) {
	for n, q := range map[int]struct {
		long        int
		first, last byte // those of the padding
	}{
		0:           {block, 0x01, 0x80},
		1:           {block, 0x01, 0x80},
		134:         {block, 0x01, 0x80},
		135:         {block, 0x81, 0x81},
		136:         {2 * block, 0x01, 0x80},
		137:         {2 * block, 0x01, 0x80},
		2*136 - 2:   {2 * block, 0x01, 0x80},
		2*136 - 1:   {2 * block, 0x81, 0x81},
		2 * 136:     {3 * block, 0x01, 0x80},
		2*136 + 1:   {3 * block, 0x01, 0x80},
		100*136 - 1: {100 * block, 0x81, 0x81},
		100 * 136:   {101 * block, 0x01, 0x80},
	} {
		b := row(n, 3)
		padded := sponge.Pad(b)
		if len(padded) != q.long || padded[n] != q.first || padded[len(padded)-1] != q.last {
			t.Errorf("Pad of %d bytes: %d bytes, %v", n, len(padded), padded)
		}
	}
	for n := range 3*block + 3 {
		for name, b := range map[string][]byte{"bytes": row(n, uint64(n)), "noughts": make([]byte, n), "ones": bytes.Repeat([]byte{255}, n)} {
			if have, want := sponge.Pad(b), pads(b, 1); !bytes.Equal(have, want) {
				t.Errorf("Pad of %d %s: %v; should be %v", n, name, have, want)
			}
		}
	}
	if have, want := sponge.Pad([]byte{}), sponge.Pad(nil); !bytes.Equal(have, want) {
		t.Errorf("Pad of no bytes: %v; of nil: %v", have, want)
	}
}

// P3.4: Text, and Parse of it; P3.5: one takes the other back.
func TestText(t *testing.T) {
	for text, id := range map[string]api.Id{
		strings.Repeat("0", 64):                                            {},
		strings.Repeat("f", 64):                                            api.Id(bytes.Repeat([]byte{255}, 32)),
		"01" + strings.Repeat("00", 30) + "a0":                             {0: 1, 31: 160},
		"0f" + strings.Repeat("00", 31):                                    {0: 15},
		"0123456789abcdef" + strings.Repeat("0", 32) + "fedcba9876543210":  {0x01, 0x23, 0x45, 0x67, 0x89, 0xab, 0xcd, 0xef, 24: 0xfe, 0xdc, 0xba, 0x98, 0x76, 0x54, 0x32, 0x10},
		"c5d2460186f7233c927e7db2dcc703c0e500b653ca82273b7bfad8045d85a470": sponge.Sum(nil),
	} {
		holdText(t, id, text)
	}
	for _, id := range ids() {
		holdText(t, id, hex.EncodeToString(id[:]))
	}
	for c := range 256 {
		for place := range 32 {
			id := api.Id{}
			id[place] = byte(c)
			holdText(t, id, hex.EncodeToString(id[:]))
		}
	}
}

// holdText fails unless the Text of id is that text, and Parse of it is id.
func holdText(t *testing.T, id api.Id, text string) {
	t.Helper()
	if have := sponge.Text(id); have != text {
		t.Errorf("Text of %x: %s; should be %s", id, have, text)
	}
	if have, err := sponge.Parse(text); have != id || err != api.OK {
		t.Errorf("Parse of %s: %x, %d", text, have, err)
	}
}

// P3.4: Parse of what is no digest in digits.
func TestParseOfNoDigest(t *testing.T) {
	whole := sponge.Text(sponge.Sum([]byte("abc")))
	for _, text := range []string{
		"", "a", "ab", "0", strings.Repeat("0", 32), whole[1:], whole[2:], whole[:63], whole[:62], whole + "0", whole + "00", whole + whole,
		"0x" + whole, "0x" + whole[2:], strings.ToUpper(whole), "C5" + whole[2:], whole[:63] + "F", "g" + whole[1:], whole[:63] + "g",
		" " + whole, whole + " ", " " + whole[1:], whole[:63] + " ", whole + "\n", whole[:63] + "\n", whole[:63] + "\x00", "\xff" + whole[1:],
		"-" + whole[1:], "+" + whole[1:], whole[:30] + "_" + whole[31:], whole[:62] + "é", strings.Repeat("é", 32), strings.Repeat("é", 64), strings.Repeat("１", 64),
		strings.Repeat("f", 5000),
	} {
		if id, err := sponge.Parse(text); id != (api.Id{}) || err != api.ErrId {
			t.Errorf("Parse of %q: %x, %d; should be ErrId", text, id, err)
		}
	}
	for c := range 256 {
		for place := range 64 {
			text := whole[:place] + string([]byte{byte(c)}) + whole[place+1:]
			id, err := sponge.Parse(text)
			digit := strings.IndexByte("0123456789abcdef", byte(c)) >= 0
			if digit && (err != api.OK || sponge.Text(id) != text) || !digit && (err != api.ErrId || id != api.Id{}) {
				t.Errorf("Parse of %q: %x, %d", text, id, err)
			}
		}
	}
}

// P3.4: Less.
func TestLess(t *testing.T) {
	for name, q := range map[string]struct {
		a, b api.Id
		want bool
	}{
		"the same":                 {api.Id{5: 7}, api.Id{5: 7}, false},
		"noughts":                  {api.Id{}, api.Id{}, false},
		"by the first byte":        {api.Id{0: 1}, api.Id{0: 2}, true},
		"by the first byte, back":  {api.Id{0: 2}, api.Id{0: 1}, false},
		"by the last byte":         {api.Id{31: 1}, api.Id{31: 2}, true},
		"by the last byte, back":   {api.Id{31: 2}, api.Id{31: 1}, false},
		"the first one counts":     {api.Id{0: 1, 31: 255}, api.Id{0: 2}, true},
		"the last one does not":    {api.Id{0: 2}, api.Id{0: 1, 31: 255}, false},
		"an earlier one counts":    {api.Id{7: 1, 8: 255}, api.Id{7: 2}, true},
		"bytes are not below 0":    {api.Id{0: 127}, api.Id{0: 128}, true},
		"nor above, the other way": {api.Id{0: 128}, api.Id{0: 127}, false},
	} {
		if have := sponge.Less(q.a, q.b); have != q.want {
			t.Errorf("%s: %v; should be %v", name, have, q.want)
		}
	}
	for _, a := range ids() {
		for _, b := range ids() {
			if have, want := sponge.Less(a, b), bytes.Compare(a[:], b[:]) < 0; have != want {
				t.Errorf("Less of %x, %x: %v; should be %v", a, b, have, want)
			}
		}
	}
}

// P3.5: Sum is block by block of Pad, permuted.
func TestSumIsOfPad(t *testing.T) {
	for n := range 3*block + 3 {
		b := row(n, uint64(n)+5)
		if have, want := sponge.Sum(b), soaked(sponge.Pad(b), sponge.Permute); have != want {
			t.Errorf("Sum of %d bytes: %x; should be %x", n, have, want)
		}
	}
}

// P3.5: two lanes' ^ is mixed to the ^ of both mixed.
func TestMixOfBoth(t *testing.T) {
	for _, a := range lanes() {
		for _, b := range lanes() {
			holdLanes(t, "both mixed", sponge.Mix(both(a, b)), both(sponge.Mix(a), sponge.Mix(b)))
		}
	}
}

// P3.5: unlike lanes are unlike when they are mixed. As the ^ of two is mixed to the ^ of both, it is enough that no single bit's lanes are the ^ of others'.
func TestMixedUnlike(t *testing.T) {
	led := map[int]api.Lanes{} // by the number of the first bit that is set
	for n := range 1600 {
		l := sponge.Mix(bit(n))
		for {
			first := lead(l)
			if first < 0 {
				t.Fatalf("the bit %d is mixed to what others are mixed to", n)
			}
			other, there := led[first]
			if !there {
				led[first] = l
				break
			}
			l = both(l, other)
		}
	}
}

// lead is the number of the first bit that is set; -1, if none is.
func lead(l api.Lanes) int {
	for i, lane := range l {
		if lane != 0 {
			return 64*i + bits.TrailingZeros64(lane)
		}
	}
	return -1
}

// P3.5: unlike lanes are unlike when their rows were gone over. Rows of five bits go by themselves, so all 32 of each have to be unlike, and nothing else may change.
func TestRowsUnlike(t *testing.T) {
	for y := range 5 {
		for place := range 64 {
			seen := map[api.Lanes]int{}
			for five := range 32 {
				var l api.Lanes
				for x := range 5 {
					l[at(x, y)] = uint64(five) >> x & 1 << place
				}
				next := sponge.Rows(l)
				if other, there := seen[next]; there {
					t.Errorf("row %d, bit %d: %b and %b become the same", y, place, other, five)
				}
				seen[next] = five
				for i, lane := range next {
					if lane&^(1<<place) != 0 || i/5 != y && lane != 0 {
						t.Errorf("row %d, bit %d: the lane %d is %x", y, place, i, lane)
					}
				}
			}
		}
	}
}

// P3.5: unlike lanes are unlike when they are permuted.
func TestPermutedUnlike(t *testing.T) {
	seen := map[api.Lanes]bool{}
	for n := range 1600 {
		seen[sponge.Permute(bit(n))] = true
	}
	seen[sponge.Permute(api.Lanes{})] = true
	if len(seen) != 1601 {
		t.Errorf("1601 unlike lanes are %d when they are permuted", len(seen))
	}
}

// P3.5: Pad begins with the bytes and is longer by 1 to 136; since it can be taken back, unlike bytes have unlike ones.
func TestPadTakenBack(t *testing.T) {
	ends := [][]byte{nil, {0}, {0, 0}, {1}, {1, 0}, {0x80}, {1, 0x80}, {0x81}, {0x81, 1}}
	for n := range 2*block + 3 {
		for _, end := range ends {
			b := append(row(n, 9), end...)
			padded := sponge.Pad(b)
			if more := len(padded) - len(b); more < 1 || more > block || len(padded)%block != 0 || !bytes.HasPrefix(padded, b) {
				t.Errorf("Pad of %v: %v", b, padded)
			}
			padded[len(padded)-1] ^= 0x80
			if back := bytes.TrimRight(padded, "\x00"); !bytes.Equal(back, append(b, 1)) {
				t.Errorf("Pad of %v, taken back: %v", b, back)
			}
		}
	}
}

// P3.5: unlike bytes have unlike digests, as far as those that differ by their ends alone go.
func TestSumUnlike(t *testing.T) {
	seen := map[api.Id]int{}
	for n := range 3 * block {
		id := sponge.Sum(make([]byte, n))
		if other, there := seen[id]; there {
			t.Errorf("%d and %d noughts have the same digest", other, n)
		}
		seen[id] = n
	}
}

// R3: what is handed in stays as it is, the room behind its end, too, and what is answered is new memory.
func TestBytesAreNew(t *testing.T) {
	for _, n := range []int{0, 1, 134, 135, 136, 137, 272} {
		room := row(n+2*block, 4)
		padded := sponge.Pad(room[:n])
		sum := sponge.Sum(room[:n])
		for i := range padded {
			padded[i] = 0xee
		}
		if !bytes.Equal(room, row(n+2*block, 4)) {
			t.Errorf("%d bytes: what was handed in is %v now", n, room)
		}
		clear(room)
		if again := sponge.Sum(row(n, 4)); again != sum || !bytes.Equal(sponge.Pad(row(n, 4)), pads(row(n, 4), 1)) {
			t.Errorf("%d bytes: %x, and then %x", n, sum, again)
		}
	}
}

func BenchmarkPermute(b *testing.B) {
	var l api.Lanes
	for b.Loop() {
		l = sponge.Permute(l)
	}
}
