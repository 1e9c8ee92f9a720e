package word_test

import (
	"bytes"
	"math"
	"math/big"
	"slices"
	"strings"
	"testing"

	"sheafer/api"
	"sheafer/word"
)

// number is what a word means, worked out limb by limb without the package's own calls.
func number(w api.Word) *big.Int {
	n := new(big.Int)
	for i := len(w) - 1; i >= 0; i-- {
		n.Lsh(n, 64)
		n.Or(n, new(big.Int).SetUint64(w[i]))
	}
	return n
}

// bound is 2^256.
func bound() *big.Int {
	return new(big.Int).Lsh(big.NewInt(1), 256)
}

// reduced is the word of n modulo 2^256, for an n below 0, too.
func reduced(n *big.Int) api.Word {
	rest := new(big.Int).Mod(n, bound())
	var w api.Word
	for i := range w {
		w[i] = new(big.Int).Rsh(rest, uint(64*i)).Uint64()
	}
	return w
}

// two is the word 2^n.
func two(n uint) api.Word {
	var w api.Word
	w[n/64] = 1 << (n % 64)
	return w
}

// most is 2^256 less 1.
func most() api.Word {
	return api.Word{math.MaxUint64, math.MaxUint64, math.MaxUint64, math.MaxUint64}
}

// edges are the words at which something changes: noughts and ones, and around each limb's end.
func edges() []api.Word {
	list := []api.Word{
		{}, {1}, {2}, {3}, {5}, {17}, {255}, {256}, {258}, {1 << 63}, {math.MaxUint64 - 1}, {math.MaxUint64},
		{0, 1}, {1, 1}, {math.MaxUint64, 1}, {math.MaxUint64, math.MaxUint64}, {0, math.MaxUint64},
		{0, 0, 1}, {1, 0, 1}, {math.MaxUint64, math.MaxUint64, math.MaxUint64}, {0, 0, math.MaxUint64},
		{0, 0, 0, 1}, {1, 0, 0, 1}, {0, 0, 0, 1 << 63}, {1, 0, 0, 1 << 63},
		{math.MaxUint64, math.MaxUint64, math.MaxUint64, math.MaxInt64}, {0, 0, 0, math.MaxUint64}, {1, 0, 0, math.MaxUint64},
		{math.MaxUint64 - 1, math.MaxUint64, math.MaxUint64, math.MaxUint64}, most(),
	}
	for _, n := range []uint{1, 8, 31, 32, 127, 129, 254} {
		list = append(list, two(n))
	}
	return list
}

// mixed are n words of all lengths by a fixed rule, so that each run has the same ones.
func mixed(n int) []api.Word {
	seed := uint64(7)
	next := func() uint64 {
		seed += 0x9e3779b97f4a7c15
		z := seed
		z = (z ^ z>>30) * 0xbf58476d1ce4e5b9
		z = (z ^ z>>27) * 0x94d049bb133111eb
		return z ^ z>>31
	}
	list := make([]api.Word, n)
	for k := range list {
		for i := range 1 + k%4 {
			list[k][i] = next()
		}
		list[k][k%4] >>= next() % 64
	}
	return list
}

// words are the edges, and some that are mixed.
func words() []api.Word {
	return append(edges(), mixed(40)...)
}

// pairs hands each pair of words to does.
func pairs(does func(a, b api.Word)) {
	for _, a := range words() {
		for _, b := range words() {
			does(a, b)
		}
	}
}

// hold fails unless both words are the same.
func hold(t *testing.T, name string, have, want api.Word) {
	t.Helper()
	if have != want {
		t.Errorf("%s: %x; should be %x", name, have, want)
	}
}

// holdOver fails unless the word is n modulo 2^256, and over tells whether n did not fit.
func holdOver(t *testing.T, name string, have api.Word, over bool, n *big.Int) {
	t.Helper()
	if fits := n.Sign() >= 0 && n.Cmp(bound()) < 0; have != reduced(n) || over == fits {
		t.Errorf("%s: %x, %v; should be that of %x", name, have, over, n)
	}
}

// P2.1: Of and Small.
func TestOfSmall(t *testing.T) {
	for _, n := range []uint64{0, 1, 255, 256, 1 << 32, 1 << 63, math.MaxUint64 - 1, math.MaxUint64} {
		hold(t, "Of", word.Of(n), api.Word{n, 0, 0, 0})
		if m, ok := word.Small(api.Word{n}); m != n || !ok {
			t.Errorf("Small of %d: %d, %v", n, m, ok)
		}
	}
	for _, w := range []api.Word{{0, 1}, {7, 1}, {0, 0, 1}, {7, 0, 1}, {0, 0, 0, 1}, {7, 0, 0, 1}, {0, 1 << 63}, two(255), most()} {
		if n, ok := word.Small(w); n != 0 || ok {
			t.Errorf("Small of %x: %d, %v; should be 0, false", w, n, ok)
		}
	}
}

// P2.1: Cmp.
func TestCmp(t *testing.T) {
	for name, q := range map[string]struct {
		a, b api.Word
		want int
	}{
		"noughts":                    {api.Word{}, api.Word{}, 0},
		"the least ones":             {api.Word{}, api.Word{1}, -1},
		"the least and the greatest": {api.Word{}, most(), -1},
		"around 2^64":                {api.Word{math.MaxUint64}, api.Word{0, 1}, -1},
		"a higher limb goes ahead":   {api.Word{0, 0, 0, 2}, api.Word{9, 9, 9, 1}, 1},
		"then the next one":          {api.Word{0, 0, 2, 1}, api.Word{9, 9, 1, 1}, 1},
		"no sign":                    {two(255), two(254), 1},
		"no sign of a limb":          {api.Word{1 << 63}, api.Word{1}, 1},
		"the least bit alone":        {most(), api.Word{math.MaxUint64 - 1, math.MaxUint64, math.MaxUint64, math.MaxUint64}, 1},
		"the same greatest":          {most(), most(), 0},
	} {
		if c := word.Cmp(q.a, q.b); c != q.want {
			t.Errorf("%s: %d; should be %d", name, c, q.want)
		}
		if c := word.Cmp(q.b, q.a); c != -q.want {
			t.Errorf("%s, the other way round: %d; should be %d", name, c, -q.want)
		}
	}
	pairs(func(a, b api.Word) {
		if c := word.Cmp(a, b); c != number(a).Cmp(number(b)) {
			t.Errorf("Cmp of %x, %x: %d", a, b, c)
		}
	})
}

// P2.2: the chapter's examples, and the edges of each.
func TestSumsAndProducts(t *testing.T) {
	type call func(a, b api.Word) (api.Word, bool)
	for name, q := range map[string]struct {
		does call
		a, b api.Word
		want api.Word
		over bool
	}{
		"Add, round":            {word.Add, most(), word.Of(1), word.Of(0), true},
		"Add, noughts":          {word.Add, word.Of(0), word.Of(0), word.Of(0), false},
		"Add, just fits":        {word.Add, api.Word{math.MaxUint64 - 1, math.MaxUint64, math.MaxUint64, math.MaxUint64}, word.Of(1), most(), false},
		"Add, over a limb":      {word.Add, word.Of(math.MaxUint64), word.Of(1), two(64), false},
		"Add, over three limbs": {word.Add, api.Word{math.MaxUint64, math.MaxUint64, math.MaxUint64}, word.Of(1), two(192), false},
		"Add, two highest bits": {word.Add, two(255), two(255), word.Of(0), true},
		"Add, twice the most":   {word.Add, most(), most(), api.Word{math.MaxUint64 - 1, math.MaxUint64, math.MaxUint64, math.MaxUint64}, true},
		"Sub, round":            {word.Sub, word.Of(0), word.Of(1), most(), true},
		"Sub, the same":         {word.Sub, most(), most(), word.Of(0), false},
		"Sub, from a limb":      {word.Sub, two(64), word.Of(1), word.Of(math.MaxUint64), false},
		"Sub, from the highest": {word.Sub, two(255), word.Of(1), api.Word{math.MaxUint64, math.MaxUint64, math.MaxUint64, math.MaxInt64}, false},
		"Sub, one less":         {word.Sub, two(128), api.Word{1, 0, 1}, most(), true},
		"Sub, the most of none": {word.Sub, word.Of(0), most(), word.Of(1), true},
		"Mul, just too great":   {word.Mul, two(128), two(128), word.Of(0), true},
		"Mul, just fits":        {word.Mul, two(127), word.Of(2), two(128), false},
		"Mul, the highest bit":  {word.Mul, two(128), two(127), two(255), false},
		"Mul, by nought":        {word.Mul, most(), word.Of(0), word.Of(0), false},
		"Mul, by one":           {word.Mul, most(), word.Of(1), most(), false},
		"Mul, twice the most":   {word.Mul, most(), word.Of(2), api.Word{math.MaxUint64 - 1, math.MaxUint64, math.MaxUint64, math.MaxUint64}, true},
		"Mul, the most twice":   {word.Mul, most(), most(), word.Of(1), true},
		"Mul, limbs":            {word.Mul, word.Of(math.MaxUint64), word.Of(math.MaxUint64), api.Word{1, math.MaxUint64 - 1}, false},
		"Mul, halves":           {word.Mul, api.Word{math.MaxUint64, math.MaxUint64}, api.Word{math.MaxUint64, math.MaxUint64}, api.Word{1, 0, math.MaxUint64 - 1, math.MaxUint64}, false},
		"Mul, over by 2^256":    {word.Mul, two(192), two(64), word.Of(0), true},
		"Mul, small ones":       {word.Mul, word.Of(15), word.Of(17), word.Of(255), false},
	} {
		w, over := q.does(q.a, q.b)
		hold(t, name, w, q.want)
		if over != q.over {
			t.Errorf("%s: %v; should be %v", name, over, q.over)
		}
	}
}

// P2.2: as numbers do.
func TestSumsAndProductsOfAll(t *testing.T) {
	pairs(func(a, b api.Word) {
		x, y := number(a), number(b)
		sum, over := word.Add(a, b)
		holdOver(t, "Add", sum, over, new(big.Int).Add(x, y))
		rest, under := word.Sub(a, b)
		holdOver(t, "Sub", rest, under, new(big.Int).Sub(x, y))
		product, over := word.Mul(a, b)
		holdOver(t, "Mul", product, over, new(big.Int).Mul(x, y))
	})
}

// P2.2: Sum.
func TestSum(t *testing.T) {
	for name, q := range map[string]struct {
		l    []api.Word
		want api.Word
		over bool
	}{
		"none":                       {nil, word.Of(0), false},
		"no words":                   {[]api.Word{}, word.Of(0), false},
		"one":                        {[]api.Word{most()}, most(), false},
		"three":                      {[]api.Word{word.Of(1), word.Of(2), word.Of(3)}, word.Of(6), false},
		"just fits":                  {[]api.Word{two(255), word.Of(0), {math.MaxUint64, math.MaxUint64, math.MaxUint64, math.MaxInt64}}, most(), false},
		"too great at the end":       {[]api.Word{word.Of(1), most()}, word.Of(0), true},
		"too great in between":       {[]api.Word{most(), word.Of(1), word.Of(5)}, word.Of(5), true},
		"too great at the beginning": {[]api.Word{two(255), two(255), word.Of(0), word.Of(0)}, word.Of(0), true},
		"too great twice":            {[]api.Word{two(255), two(255), two(255), two(255)}, word.Of(0), true},
		"too great three times":      {[]api.Word{most(), most(), most(), most()}, api.Word{math.MaxUint64 - 3, math.MaxUint64, math.MaxUint64, math.MaxUint64}, true},
	} {
		w, over := word.Sum(q.l...)
		hold(t, name, w, q.want)
		if over != q.over {
			t.Errorf("%s: %v; should be %v", name, over, q.over)
		}
	}
	list := mixed(30)
	n := new(big.Int)
	for i, w := range list {
		n.Add(n, number(w))
		sum, over := word.Sum(list[:i+1]...)
		holdOver(t, "Sum", sum, over, n)
	}
}

// P2.3
func TestDiv(t *testing.T) {
	below := api.Word{math.MaxUint64 - 1, math.MaxUint64, math.MaxUint64, math.MaxUint64}
	for name, q := range map[string]struct{ a, b, times, left api.Word }{
		"17 by 5":                  {word.Of(17), word.Of(5), word.Of(3), word.Of(2)},
		"by nought":                {word.Of(17), word.Of(0), word.Of(0), word.Of(0)},
		"the most by nought":       {most(), word.Of(0), word.Of(0), word.Of(0)},
		"nought by nought":         {word.Of(0), word.Of(0), word.Of(0), word.Of(0)},
		"nought":                   {word.Of(0), word.Of(9), word.Of(0), word.Of(0)},
		"by one":                   {most(), word.Of(1), most(), word.Of(0)},
		"by itself":                {most(), most(), word.Of(1), word.Of(0)},
		"by one more":              {below, most(), word.Of(0), below},
		"by one less":              {most(), below, word.Of(1), word.Of(1)},
		"by the highest bit":       {most(), two(255), word.Of(1), api.Word{math.MaxUint64, math.MaxUint64, math.MaxUint64, math.MaxInt64}},
		"by above the half":        {most(), api.Word{1, 0, 0, 1 << 63}, word.Of(1), api.Word{math.MaxUint64 - 1, math.MaxUint64, math.MaxUint64, math.MaxInt64}},
		"2^255 by 2":               {two(255), word.Of(2), two(254), word.Of(0)},
		"2^64 by 2^64 less 1":      {two(64), word.Of(math.MaxUint64), word.Of(1), word.Of(1)},
		"2^255 by 3":               {two(255), word.Of(3), api.Word{0xaaaaaaaaaaaaaaaa, 0xaaaaaaaaaaaaaaaa, 0xaaaaaaaaaaaaaaaa, 0x2aaaaaaaaaaaaaaa}, word.Of(2)},
		"a small one by a greater": {word.Of(5), two(64), word.Of(0), word.Of(5)},
	} {
		times, left := word.Div(q.a, q.b)
		hold(t, name+", how many times", times, q.times)
		hold(t, name+", what is left", left, q.left)
	}
	pairs(func(a, b api.Word) {
		if b == (api.Word{}) {
			return
		}
		n, m := new(big.Int).QuoRem(number(a), number(b), new(big.Int))
		times, left := word.Div(a, b)
		hold(t, "how many times", times, reduced(n))
		hold(t, "what is left", left, reduced(m))
	})
}

// P2.4: And, Or, Xor, Not.
func TestBits(t *testing.T) {
	a, b := api.Word{0b1100, 1, 0, 1 << 63}, api.Word{0b1010, 0, 1, 1 << 63}
	hold(t, "And", word.And(a, b), api.Word{0b1000, 0, 0, 1 << 63})
	hold(t, "Or", word.Or(a, b), api.Word{0b1110, 1, 1, 1 << 63})
	hold(t, "Xor", word.Xor(a, b), api.Word{0b0110, 1, 1, 0})
	hold(t, "Not", word.Not(a), api.Word{math.MaxUint64 - 0b1100, math.MaxUint64 - 1, math.MaxUint64, math.MaxInt64})
	hold(t, "Not of 0", word.Not(word.Of(0)), most())
	hold(t, "Not of the most", word.Not(most()), word.Of(0))
	pairs(func(a, b api.Word) {
		x, y := number(a), number(b)
		hold(t, "And", word.And(a, b), reduced(new(big.Int).And(x, y)))
		hold(t, "Or", word.Or(a, b), reduced(new(big.Int).Or(x, y)))
		hold(t, "Xor", word.Xor(a, b), reduced(new(big.Int).Xor(x, y)))
		hold(t, "Not", word.Not(a), reduced(new(big.Int).Sub(new(big.Int).Sub(bound(), big.NewInt(1)), x)))
	})
}

// P2.4: Shl, Shr.
func TestShifts(t *testing.T) {
	a := api.Word{0x1111, 0x2222, 0x3333, 0x4444}
	for name, q := range map[string]struct{ a, n, left, right api.Word }{
		"1 by 255":              {word.Of(1), word.Of(255), two(255), word.Of(0)},
		"2^255 by 255":          {two(255), word.Of(255), word.Of(0), word.Of(1)},
		"2^255 by 256":          {two(255), word.Of(256), word.Of(0), word.Of(0)},
		"the most by 256":       {most(), word.Of(256), word.Of(0), word.Of(0)},
		"the most by 257":       {most(), word.Of(257), word.Of(0), word.Of(0)},
		"the most by 320":       {most(), word.Of(320), word.Of(0), word.Of(0)},
		"the most by 2^63":      {most(), word.Of(1 << 63), word.Of(0), word.Of(0)},
		"the most by 2^64":      {most(), two(64), word.Of(0), word.Of(0)},
		"by 2^64 and 1":         {most(), api.Word{1, 1}, word.Of(0), word.Of(0)},
		"by 2^128 and 1":        {most(), api.Word{1, 0, 1}, word.Of(0), word.Of(0)},
		"by 2^192 and 1":        {most(), api.Word{1, 0, 0, 1}, word.Of(0), word.Of(0)},
		"the most by the most":  {most(), most(), word.Of(0), word.Of(0)},
		"by none":               {a, word.Of(0), a, a},
		"by a limb":             {a, word.Of(64), api.Word{0, 0x1111, 0x2222, 0x3333}, api.Word{0x2222, 0x3333, 0x4444}},
		"by two limbs":          {a, word.Of(128), api.Word{0, 0, 0x1111, 0x2222}, api.Word{0x3333, 0x4444}},
		"by three limbs":        {a, word.Of(192), api.Word{0, 0, 0, 0x1111}, api.Word{0x4444}},
		"over the limbs' ends":  {a, word.Of(60), api.Word{0x1 << 60, 0x2<<60 | 0x111, 0x3<<60 | 0x222, 0x4<<60 | 0x333}, api.Word{0x22220, 0x33330, 0x44440, 0}},
		"the most by a bit":     {most(), word.Of(1), api.Word{math.MaxUint64 - 1, math.MaxUint64, math.MaxUint64, math.MaxUint64}, api.Word{math.MaxUint64, math.MaxUint64, math.MaxUint64, math.MaxInt64}},
		"the most by all but 1": {most(), word.Of(255), two(255), word.Of(1)},
	} {
		hold(t, "Shl: "+name, word.Shl(q.a, q.n), q.left)
		hold(t, "Shr: "+name, word.Shr(q.a, q.n), q.right)
	}
	for _, a := range words() {
		for n := range uint(300) {
			hold(t, "Shl", word.Shl(a, word.Of(uint64(n))), reduced(new(big.Int).Lsh(number(a), n)))
			hold(t, "Shr", word.Shr(a, word.Of(uint64(n))), reduced(new(big.Int).Rsh(number(a), n)))
		}
	}
}

// P2.5: Bytes.
func TestBytes(t *testing.T) {
	for name, q := range map[string]struct {
		w    api.Word
		want []byte
	}{
		"nought":   {api.Word{}, make([]byte, 32)},
		"258":      {word.Of(258), append(make([]byte, 30), 1, 2)},
		"2^64":     {two(64), append(append(make([]byte, 23), 1), make([]byte, 8)...)},
		"2^255":    {two(255), append([]byte{128}, make([]byte, 31)...)},
		"the most": {most(), bytes.Repeat([]byte{255}, 32)},
		"each byte its own": {
			api.Word{0x191a1b1c1d1e1f20, 0x1112131415161718, 0x090a0b0c0d0e0f10, 0x0102030405060708},
			[]byte{1, 2, 3, 4, 5, 6, 7, 8, 9, 10, 11, 12, 13, 14, 15, 16, 17, 18, 19, 20, 21, 22, 23, 24, 25, 26, 27, 28, 29, 30, 31, 32},
		},
	} {
		if row := word.Bytes(q.w); !bytes.Equal(row, q.want) {
			t.Errorf("%s: %v; should be %v", name, row, q.want)
		}
	}
	for _, w := range words() {
		if row := word.Bytes(w); !bytes.Equal(row, number(w).FillBytes(make([]byte, 32))) {
			t.Errorf("Bytes of %x: %v", w, row)
		}
	}
}

// P2.5: Read.
func TestRead(t *testing.T) {
	ones := bytes.Repeat([]byte{255}, 40)
	for name, q := range map[string]struct {
		b    []byte
		want api.Word
		err  api.Errno
	}{
		"nil":                     {nil, word.Of(0), api.OK},
		"no bytes":                {[]byte{}, word.Of(0), api.OK},
		"one":                     {[]byte{7}, word.Of(7), api.OK},
		"two":                     {[]byte{1, 2}, word.Of(258), api.OK},
		"noughts ahead":           {[]byte{0, 0, 5}, word.Of(5), api.OK},
		"noughts behind":          {[]byte{5, 0, 0}, word.Of(5 << 16), api.OK},
		"eight":                   {[]byte{1, 2, 3, 4, 5, 6, 7, 8}, word.Of(0x0102030405060708), api.OK},
		"nine":                    {[]byte{9, 1, 2, 3, 4, 5, 6, 7, 8}, api.Word{0x0102030405060708, 9}, api.OK},
		"31":                      {ones[:31], api.Word{math.MaxUint64, math.MaxUint64, math.MaxUint64, math.MaxUint64 >> 8}, api.OK},
		"32":                      {ones[:32], most(), api.OK},
		"33":                      {ones[:33], api.Word{}, api.ErrLong},
		"33, all of them noughts": {make([]byte, 33), api.Word{}, api.ErrLong},
		"33, with a nought ahead": {append([]byte{0}, ones[:32]...), api.Word{}, api.ErrLong},
		"5000":                    {make([]byte, 5000), api.Word{}, api.ErrLong},
	} {
		w, err := word.Read(q.b)
		hold(t, name, w, q.want)
		if err != q.err {
			t.Errorf("%s: %d; should be %d", name, err, q.err)
		}
	}
	for _, w := range words() {
		row := word.Bytes(w)
		for n := range 33 {
			have, err := word.Read(row[32-n:])
			hold(t, "Read", have, reduced(new(big.Int).SetBytes(row[32-n:])))
			if err != api.OK {
				t.Errorf("Read of %d bytes: %d", n, err)
			}
		}
	}
}

// P2.6: Text, and Parse of it.
func TestText(t *testing.T) {
	for text, w := range map[string]api.Word{
		"0":                       {},
		"1":                       {1},
		"9":                       {9},
		"a":                       {10},
		"f":                       {15},
		"10":                      {16},
		"ff":                      {255},
		"102":                     {258},
		"123456789abcdef0":        {0x123456789abcdef0},
		"ffffffffffffffff":        {math.MaxUint64},
		"10000000000000000":       {0, 1},
		"a000000000000000b":       {11, 10},
		"1" + noughts(32):         {0, 0, 1},
		"8" + noughts(63):         two(255),
		strings.Repeat("f", 64):   most(),
		strings.Repeat("f", 63):   {math.MaxUint64, math.MaxUint64, math.MaxUint64, math.MaxUint64 >> 4},
		"7" + noughts(62) + "1":   {1, 0, 0, 7 << 60},
		"1" + noughts(47) + "abc": {0xabc, 0, 0, 1 << 8},
	} {
		holdText(t, w, text)
	}
	for _, w := range words() {
		holdText(t, w, number(w).Text(16))
	}
}

func noughts(n int) string {
	return strings.Repeat("0", n)
}

// holdText fails unless the Text of w is that text, and Parse of it is w.
func holdText(t *testing.T, w api.Word, text string) {
	t.Helper()
	if have := word.Text(w); have != text {
		t.Errorf("Text of %x: %s; should be %s", w, have, text)
	}
	have, err := word.Parse(text)
	hold(t, "Parse of "+text, have, w)
	if err != api.OK {
		t.Errorf("Parse of %s: %d", text, err)
	}
}

// P2.6: Parse of what is no word's Text.
func TestParseOfNoText(t *testing.T) {
	for _, text := range []string{
		"", "0ff", "00", "01", noughts(64), noughts(65), "0" + strings.Repeat("f", 63), "0" + strings.Repeat("f", 64),
		"1" + noughts(64), strings.Repeat("f", 65), strings.Repeat("f", 5000),
		"FF", "fF", "A", "g", "1g", "g1", "1g1", "/", ":", "`", "0x", "0x1", "x", "-1", "-0", "-", "+1", "1.0", "1e+1", "1_0", "_1",
		" ", " 1", "1 ", "1 2", "1\n", "\t1", "1\x00", "\x00", "1\x80", "\xff", "é", "１", "1é", "\u0661",
		strings.Repeat("f", 63) + "g", "g" + strings.Repeat("f", 63), strings.Repeat("f", 64) + "\n",
	} {
		if w, err := word.Parse(text); w != (api.Word{}) || err != api.ErrArg {
			t.Errorf("Parse of %q: %x, %d; should be ErrArg", text, w, err)
		}
	}
	for c := range 256 {
		text := string([]byte{'1', byte(c), '2'})
		_, err := word.Parse(text)
		if digit := strings.IndexByte("0123456789abcdef", byte(c)) >= 0; digit != (err == api.OK) {
			t.Errorf("Parse of %q: %d", text, err)
		}
	}
}

// P2.7: sums and products hang on no order, and products of a sum are the sum of products.
func TestOrders(t *testing.T) {
	list := append(edges(), mixed(8)...)
	for _, a := range list {
		for _, b := range list {
			holdSame(t, "the sum of two", word.Add, a, b)
			holdSame(t, "the product of two", word.Mul, a, b)
			for _, c := range mixed(8) {
				holdAny(t, "the sum of three", word.Add, a, b, c)
				holdAny(t, "the product of three", word.Mul, a, b, c)
				hold(t, "the product of a sum", low(word.Mul(a, low(word.Add(b, c)))), low(word.Add(low(word.Mul(a, b)), low(word.Mul(a, c)))))
			}
		}
	}
}

func low(w api.Word, _ bool) api.Word {
	return w
}

func holdSame(t *testing.T, name string, does func(a, b api.Word) (api.Word, bool), a, b api.Word) {
	t.Helper()
	one, first := does(a, b)
	other, second := does(b, a)
	hold(t, name, one, other)
	if first != second {
		t.Errorf("%s of %x, %x fits one way alone", name, a, b)
	}
}

func holdAny(t *testing.T, name string, does func(a, b api.Word) (api.Word, bool), a, b, c api.Word) {
	t.Helper()
	hold(t, name, low(does(low(does(a, b)), c)), low(does(a, low(does(b, c)))))
}

// P2.7: Sum hangs on no order, as to whether it fits, too.
func TestSumOrders(t *testing.T) {
	for _, list := range [][]api.Word{
		{two(255), word.Of(3), two(255), word.Of(9)},
		{word.Of(1), most(), word.Of(0)},
		{word.Of(1), word.Of(2), two(64), two(128), two(192)},
		mixed(7),
	} {
		sum, over := word.Sum(list...)
		for range list {
			list = append(slices.Clone(list[1:]), list[0])
			turned, turnedOver := word.Sum(list...)
			hold(t, "turned", turned, sum)
			if turnedOver != over {
				t.Errorf("turned: %v; should be %v", turnedOver, over)
			}
		}
		slices.Reverse(list)
		hold(t, "from behind", low(word.Sum(list...)), sum)
	}
}

// P2.7: what Div tells, multiplied and added, is a again, and fits; what is left is below b.
func TestDivAgain(t *testing.T) {
	pairs(func(a, b api.Word) {
		if b == (api.Word{}) {
			return
		}
		times, left := word.Div(a, b)
		product, over := word.Mul(times, b)
		again, more := word.Add(product, left)
		hold(t, "again", again, a)
		if over || more || word.Cmp(left, b) >= 0 {
			t.Errorf("Div of %x, %x: %x, %x", a, b, times, left)
		}
	})
}

// P2.7: moved up by n bits is the product with 2^n; moved down is how many times 2^n is in it.
func TestShiftsAreProducts(t *testing.T) {
	for _, a := range words() {
		for n := range uint(256) {
			places := word.Of(uint64(n))
			hold(t, "up", word.Shl(a, places), low(word.Mul(a, two(n))))
			times, _ := word.Div(a, two(n))
			hold(t, "down", word.Shr(a, places), times)
		}
	}
}

// P2.7: Cmp is the order of Bytes.
func TestCmpIsTheOrderOfBytes(t *testing.T) {
	pairs(func(a, b api.Word) {
		if c := word.Cmp(a, b); c != bytes.Compare(word.Bytes(a), word.Bytes(b)) {
			t.Errorf("Cmp of %x, %x: %d", a, b, c)
		}
	})
}

// R3: what is handed in stays as it is, and what is answered is new memory.
func TestWordsAreNew(t *testing.T) {
	list := mixed(9)
	word.Sum(list[:4]...)
	if !slices.Equal(list, mixed(9)) {
		t.Errorf("Sum: what was handed in is %x now", list)
	}
	row := []byte{0, 1, 2, 3, 4}
	word.Read(row[:3])
	if !bytes.Equal(row, []byte{0, 1, 2, 3, 4}) {
		t.Errorf("Read: what was handed in is %v now", row)
	}
	w := word.Of(7)
	first := word.Bytes(w)
	clear(first)
	if second := word.Bytes(w); second[31] != 7 || w != word.Of(7) {
		t.Errorf("Bytes: %v of %x, once those told first are cleared", second, w)
	}
}
