package addr_test

import (
	"bytes"
	"encoding/binary"
	"encoding/hex"
	"math"
	"math/big"
	"slices"
	"testing"

	"sheafer/addr"
	"sheafer/api"
	"sheafer/sponge"
)

// greatest is the greatest address.
const greatest api.Addr = math.MaxUint64

// addrs are addresses at the edges, and some whose bytes are all unlike.
func addrs() []api.Addr {
	return []api.Addr{
		0, api.AddrEntry, api.AddrChain, 3, 14, 15, 16, 17, 20, 127, 128, 255, 256, 258, 1 << 16, 1<<32 - 1, 1 << 32,
		0x0102030405060708, 0x8070605040302010, math.MaxInt64, 1 << 63, greatest - 16, greatest - 1, greatest,
	}
}

// counted is the word whose bytes are 0 to 31.
func counted() api.Word {
	return api.Word{0x18191a1b1c1d1e1f, 0x1011121314151617, 0x08090a0b0c0d0e0f, 0x0001020304050607}
}

// most is the greatest word.
func most() api.Word {
	return api.Word{math.MaxUint64, math.MaxUint64, math.MaxUint64, math.MaxUint64}
}

// words are words at the edges of each limb, and some whose bytes are all unlike; none twice.
func words() []api.Word {
	all := []api.Word{{}, {7}, {258}, counted(), most(), {1, 2, 3, 4}, {3: 1 << 63}, {0, math.MaxUint64, math.MaxUint64, math.MaxUint64}}
	for limb := range 4 {
		for _, x := range []uint64{1, math.MaxUint64} {
			var w api.Word
			w[limb] = x
			all = append(all, w)
		}
	}
	return all
}

// codes are programs: none, of noughts, of all unlike bytes, and around the ends of the sponge's blocks.
func codes() [][]byte {
	all := [][]byte{nil, {}, {0}, {0, 0}, {1, 2, 3}, {0xff}, bytes.Repeat([]byte{0xab}, 200)}
	for _, n := range []int{8, 31, 32, 33, 63, 64, 73, 135, 136, 137, 271, 272, 273, 1000} {
		all = append(all, run(n))
	}
	return all
}

// run is n bytes that count upward.
func run(n int) []byte {
	b := make([]byte, n)
	for i := range b {
		b[i] = byte(i + 1)
	}
	return b
}

// eight and thirtyTwo are the bytes of an address and of a word, laid without the package's own calls.
func eight(a api.Addr) []byte {
	return binary.BigEndian.AppendUint64(nil, uint64(a))
}

func thirtyTwo(w api.Word) []byte {
	var row []byte
	for _, limb := range []int{3, 2, 1, 0} {
		row = binary.BigEndian.AppendUint64(row, w[limb])
	}
	return row
}

// number is w as math/big has it; word the way back, of 0 to 2^256 less 1.
func number(w api.Word) *big.Int {
	return new(big.Int).SetBytes(thirtyTwo(w))
}

func word(n *big.Int) api.Word {
	row := n.FillBytes(make([]byte, 32))
	var w api.Word
	for limb := range w {
		w[3-limb] = binary.BigEndian.Uint64(row[8*limb:])
	}
	return w
}

// hashed is the digest of all that is handed in, as digits.
func hashed(parts ...[]byte) string {
	id := sponge.Sum(slices.Concat(parts...))
	return hex.EncodeToString(id[:])
}

// digits are those of a word and of an address, as many as these have at most.
func digits(w api.Word) string {
	return hex.EncodeToString(thirtyTwo(w))
}

func addrDigits(a api.Addr) string {
	return hex.EncodeToString(eight(a))
}

// P5.1: Word.
func TestWord(t *testing.T) {
	for _, a := range addrs() {
		if have, want := addr.Word(a), (api.Word{uint64(a)}); have != want {
			t.Errorf("Word(%d): %v; should be %v", a, have, want)
		}
	}
}

// P5.1: Of takes the least limb, whatever is above it.
func TestOf(t *testing.T) {
	for name, q := range map[string]struct {
		w    api.Word
		want api.Addr
	}{
		"0":                     {api.Word{}, 0},
		"15":                    {api.Word{15}, 15},
		"16":                    {api.Word{16}, 16},
		"2^64 less 1":           {api.Word{math.MaxUint64}, greatest},
		"2^64":                  {api.Word{0, 1}, 0},
		"2^64 and 5":            {api.Word{5, 1}, 5},
		"2^128 and 6":           {api.Word{6, 0, 1}, 6},
		"2^192 and 7":           {api.Word{7, 0, 0, 1}, 7},
		"2^255":                 {api.Word{3: 1 << 63}, 0},
		"limbs that are unlike": {api.Word{1, 2, 3, 4}, 1},
		"bytes that are unlike": {counted(), 0x18191a1b1c1d1e1f},
		"the greatest one":      {most(), greatest},
	} {
		if have := addr.Of(q.w); have != q.want {
			t.Errorf("%s: %d; should be %d", name, have, q.want)
		}
	}
	for _, a := range addrs() {
		for _, w := range words() {
			w[0] = uint64(a)
			if have := addr.Of(w); have != a {
				t.Errorf("Of(%v): %d; should be %d", w, have, a)
			}
		}
	}
}

// P5.1: Bytes, the highest one first.
func TestBytes(t *testing.T) {
	for a, want := range map[api.Addr]string{
		0: "0000000000000000", 1: "0000000000000001", 15: "000000000000000f", 16: "0000000000000010", 258: "0000000000000102",
		0x0102030405060708: "0102030405060708", 1 << 63: "8000000000000000", greatest: "ffffffffffffffff",
	} {
		if have := hex.EncodeToString(addr.Bytes(a)); have != want {
			t.Errorf("Bytes(%d): %s; should be %s", a, have, want)
		}
	}
	for _, a := range addrs() {
		if have := addr.Bytes(a); !bytes.Equal(have, eight(a)) {
			t.Errorf("Bytes(%d): %v; should be %v", a, have, eight(a))
		}
	}
}

// P5.1: Read takes the first eight bytes, whatever stands behind them.
func TestRead(t *testing.T) {
	for _, a := range addrs() {
		for _, behind := range [][]byte{nil, {0}, {1}, {0xff}, run(7), run(8), run(24), make([]byte, 24), eight(greatest), bytes.Repeat([]byte{255}, 5000)} {
			b := slices.Concat(eight(a), behind)
			if have, err := addr.Read(b); have != a || err != api.OK {
				t.Errorf("Read(%v): %d, %d; should be %d", b, have, err, a)
			}
		}
	}
	if have, err := addr.Read(run(32)); have != 0x0102030405060708 || err != api.OK {
		t.Errorf("Read of 32 bytes: %x, %d", have, err)
	}
}

// P5.1: of fewer than eight bytes nothing is read, even where there is room behind them.
func TestReadOfTooFew(t *testing.T) {
	for _, row := range [][]byte{make([]byte, 16), run(16), bytes.Repeat([]byte{255}, 16)} {
		for n := range 8 {
			for _, b := range [][]byte{row[:n], row[:n:n]} {
				if have, err := addr.Read(b); have != 0 || err != api.ErrShort {
					t.Errorf("Read(%v): %d, %d; should be ErrShort", b, have, err)
				}
			}
		}
		if _, err := addr.Read(row[:8:8]); err != api.OK {
			t.Errorf("Read(%v): %d", row[:8], err)
		}
	}
	if have, err := addr.Read(nil); have != 0 || err != api.ErrShort {
		t.Errorf("Read(nil): %d, %d", have, err)
	}
}

// P5.1: Kept.
func TestKept(t *testing.T) {
	for a := range api.Addr(300) {
		if have, want := addr.Kept(a), a <= 15; have != want {
			t.Errorf("Kept(%d): %v", a, have)
		}
	}
	for _, a := range []api.Addr{1 << 32, 1<<32 + 1, 1 << 63, 1<<63 + 1, greatest - 1, greatest} {
		if addr.Kept(a) {
			t.Errorf("Kept(%d)", a)
		}
	}
}

// P5.2: Created, as a Keccak that is not the project's says.
func TestCreatedWrittenOut(t *testing.T) {
	half := api.Word{3: 1 << 63}
	ab := bytes.Repeat([]byte{0xab}, 200)
	for _, q := range []struct {
		by   api.Addr
		salt api.Word
		code []byte
		want string
	}{
		{0, api.Word{}, nil, "d6789ff1a161988f"},
		{0, api.Word{}, []byte{0}, "b18f2a2405ebdb75"},
		{0, api.Word{1}, nil, "5c6adcbdcb966094"},
		{0, most(), ab, "e25a57251124d0fe"},
		{20, api.Word{}, nil, "cc2aba3bb07e8490"},
		{20, api.Word{}, []byte{1, 2, 3}, "b23358a94707f6ca"},
		{20, api.Word{1}, []byte{1, 2, 3}, "a94f51ff57400eda"},
		{20, api.Word{0, 1}, []byte{1, 2, 3}, "579a10fa60dddb55"},
		{20, half, []byte{1, 2, 3}, "401aadec5b084fd1"},
		{20, counted(), []byte{1, 2, 3}, "88ae4e74b9bc1383"},
		{20, counted(), ab, "51470ffb9ffb87c8"},
		{0x0102030405060708, api.Word{}, nil, "a361f88929d862b6"},
		{0x0102030405060708, api.Word{}, []byte{1, 2, 3}, "0c3b5a71e382ed59"},
		{0x0102030405060708, counted(), []byte{1, 2, 3}, "c55c537b875dbd7a"},
		{0x0102030405060708, counted(), ab, "58d7344730ffe097"},
		{0x0102030405060708, most(), nil, "ef58e27a57385afd"},
		{greatest, api.Word{}, nil, "0c97a44e38df350a"},
		{greatest, counted(), []byte{0}, "1aa66047594492dd"},
		{greatest, most(), ab, "4f15e29ba2bd42de"},
	} {
		if have := addrDigits(addr.Created(q.by, q.salt, q.code)); have != q.want {
			t.Errorf("Created(%d, %v, %v): %s; should be %s", q.by, q.salt, q.code, have, q.want)
		}
	}
}

// P5.2: Created of all creators, salts and programs: no two are the same.
func TestCreated(t *testing.T) {
	seen := map[api.Addr]int{}
	for _, by := range addrs() {
		for _, salt := range words() {
			for _, code := range codes() {
				program := sponge.Sum(code)
				have := addr.Created(by, salt, code)
				if want := hashed([]byte{0xff}, eight(by), thirtyTwo(salt), program[:])[:16]; addrDigits(have) != want {
					t.Errorf("Created(%d, %v, %v): %x; should be %s", by, salt, code, have, want)
				}
				seen[have]++
			}
		}
	}
	// No bytes stand there as nil, and as an empty row.
	same := len(addrs()) * len(words())
	if want := same * (len(codes()) - 1); len(seen) != want {
		t.Errorf("%d addresses; should be %d", len(seen), want)
	}
}

// P5.2: Slot, as a Keccak that is not the project's says.
func TestSlotWrittenOut(t *testing.T) {
	for _, q := range []struct {
		a    api.Addr
		n    api.Word
		want string
	}{
		{0, api.Word{}, "ad3228b676f7d3cd4284a5443f17f1962b36e491b30a40b2405849e597ba5fb5"},
		{0, api.Word{1}, "a6eef7e35abe7026729641147f7915573c7e97b47efa546f5f6e3230263bcb49"},
		{1, api.Word{}, "ada5013122d395ba3c54772283fb069b10426056ef8ca54750cb9bb552a59e7d"},
		{1, api.Word{1}, "cc69885fda6bcc1a4ace058b4a62bf5e179ea78fd58a1ccd71c22cc9b688792f"},
		{20, api.Word{}, "9998fe8c12a1a1395171fc2449145bb1f0c273bfc80ab4ea62eb7a9cb439450c"},
		{20, api.Word{1}, "467a5c61216cad3003bc3395c339807c735d5c3d989ca4bc0ef2a37e14ce2679"},
		{20, api.Word{0, 1}, "fe4f9bf6f63c68b25123659b9d1be949e402622eb501b38813eb26783d13987f"},
		{20, counted(), "d1b5f6c3f99627276eb121430cb52121ef308f96f986f06f1de9f1a178fd2712"},
		{20, most(), "a16b95352feff5bbe1a5dc17889c5873956448a9f526e036afe6c6709ec16d53"},
		{0x0102030405060708, api.Word{}, "d86cdafd92e24a52750129ee8caf210a8c2cda429588110a6bac71eaa484cf79"},
		{0x0102030405060708, counted(), "32de380520892f69545fe5f69e0a8a2568ea3b90a204c32a05f6e370f309a72a"},
		{greatest, api.Word{}, "452902199bdce8a59846319f3ddfd9f6b5d62bd12aa4e74cad8c7ca1116fdf09"},
		{greatest, most(), "31f343bbf1bf134c5ed325dfccc4d1c9f0e4b1b0df11767cbc4b560be89c80e7"},
	} {
		if have := digits(addr.Slot(q.a, q.n)); have != q.want {
			t.Errorf("Slot(%d, %v): %s; should be %s", q.a, q.n, have, q.want)
		}
	}
}

// P5.2: Slot of all addresses and numbers: no two are the same.
func TestSlot(t *testing.T) {
	seen := map[api.Word]int{}
	for _, n := range words() {
		for _, a := range addrs() {
			have := addr.Slot(a, n)
			if want := hashed(make([]byte, 24), eight(a), thirtyTwo(n)); digits(have) != want {
				t.Errorf("Slot(%d, %v): %s; should be %s", a, n, digits(have), want)
			}
			seen[have]++
		}
	}
	if want := len(words()) * len(addrs()); len(seen) != want {
		t.Errorf("%d slots; should be %d", len(seen), want)
	}
}

// P5.2: Digest; those written out are not the project's.
func TestDigest(t *testing.T) {
	for _, q := range []struct {
		b    []byte
		want string
	}{
		{nil, "c5d2460186f7233c927e7db2dcc703c0e500b653ca82273b7bfad8045d85a470"},
		{[]byte{}, "c5d2460186f7233c927e7db2dcc703c0e500b653ca82273b7bfad8045d85a470"},
		{[]byte{0}, "bc36789e7a1e281436464229828f817d6612f7b477d66591ff96a9e064bcc98a"},
		{[]byte("abc"), "4e03657aea45a94fc7d47ba826c8d667c0d1e6e33a64a036ec44f58fa12d6c45"},
		{make([]byte, 64), "ad3228b676f7d3cd4284a5443f17f1962b36e491b30a40b2405849e597ba5fb5"},
		{bytes.Repeat([]byte{0xab}, 200), "8ca353cee0a5c5b999a0916e88da37a16293cf14a73c735d6b5197b50c3d6656"},
	} {
		if have := digits(addr.Digest(q.b)); have != q.want {
			t.Errorf("Digest(%v): %s; should be %s", q.b, have, q.want)
		}
	}
	for _, b := range append(codes(), run(5000), make([]byte, 10000)) {
		if have, want := digits(addr.Digest(b)), hashed(b); have != want {
			t.Errorf("Digest(%v): %s; should be %s", b, have, want)
		}
	}
}

// P5.3: Near, at the edges that the chapter names.
func TestNearWrittenOut(t *testing.T) {
	top := func(below uint64) api.Word {
		w := most()
		w[0] -= below
		return w
	}
	for name, q := range map[string]struct {
		slot, to api.Word
		want     bool
	}{
		"the same":                        {api.Word{7}, api.Word{7}, true},
		"127 more":                        {api.Word{134}, api.Word{7}, true},
		"128 more":                        {api.Word{135}, api.Word{7}, false},
		"129 more":                        {api.Word{136}, api.Word{7}, false},
		"1 less":                          {api.Word{6}, api.Word{7}, false},
		"127 less":                        {api.Word{7}, api.Word{134}, false},
		"0 and 0":                         {api.Word{}, api.Word{}, true},
		"127 and 0":                       {api.Word{127}, api.Word{}, true},
		"128 and 0":                       {api.Word{128}, api.Word{}, false},
		"0 and 1":                         {api.Word{}, api.Word{1}, false},
		"2^64 and 0":                      {api.Word{0, 1}, api.Word{}, false},
		"2^64 and 7 and 7":                {api.Word{7, 1}, api.Word{7}, false},
		"2^128 and 7 and 7":               {api.Word{7, 0, 1}, api.Word{7}, false},
		"2^192 and 7 and 7":               {api.Word{7, 0, 0, 1}, api.Word{7}, false},
		"7, and 2^192 and 7":              {api.Word{7}, api.Word{7, 0, 0, 1}, false},
		"7 more of limbs, 1 less above":   {api.Word{14, 1}, api.Word{7, 2}, false},
		"127 more across a limb's end":    {api.Word{126, 1}, api.Word{math.MaxUint64}, true},
		"128 more across a limb's end":    {api.Word{127, 1}, api.Word{math.MaxUint64}, false},
		"1 more across two limbs' ends":   {api.Word{0, 0, 1}, api.Word{math.MaxUint64, math.MaxUint64}, true},
		"1 less across two limbs' ends":   {api.Word{math.MaxUint64, math.MaxUint64}, api.Word{0, 0, 1}, false},
		"127 more across all limbs' ends": {api.Word{126, 0, 0, 1}, api.Word{math.MaxUint64, math.MaxUint64, math.MaxUint64}, true},
		"128 more across all limbs' ends": {api.Word{127, 0, 0, 1}, api.Word{math.MaxUint64, math.MaxUint64, math.MaxUint64}, false},
		"the last one and itself":         {top(0), top(0), true},
		"the last one, 1 more":            {top(0), top(1), true},
		"the last one, 127 more":          {top(0), top(127), true},
		"the last one, 128 more":          {top(0), top(128), false},
		"the last but one and the last":   {top(1), top(0), false},
		"0 and the last one":              {api.Word{}, top(0), false},
		"126 and the last one":            {api.Word{126}, top(0), false},
		"0 and the 127th from the end":    {api.Word{}, top(126), false},
		"the last one and 0":              {top(0), api.Word{}, false},
		"the 128th from the end and 0":    {top(127), api.Word{}, false},
	} {
		if have := addr.Near(q.slot, q.to); have != q.want {
			t.Errorf("%s: %v", name, have)
		}
	}
}

// P5.3: Near around all edges, held against math/big.
func TestNear(t *testing.T) {
	end := new(big.Int).Lsh(big.NewInt(1), 256)
	reach := big.NewInt(128)
	for _, to := range append(words(), addr.Slot(20, api.Word{3}), addr.Slot(greatest, most())) {
		for by := int64(-300); by <= 300; by++ {
			slot := new(big.Int).Add(number(to), big.NewInt(by))
			// Beyond both ends it goes round: that is another slot, which may not be near.
			w := word(slot.Mod(slot, end))
			distance := new(big.Int).Sub(number(w), number(to))
			if have, want := addr.Near(w, to), distance.Sign() >= 0 && distance.Cmp(reach) < 0; have != want {
				t.Errorf("Near(%v, %v): %v", w, to, have)
			}
		}
		for _, slot := range words() {
			distance := new(big.Int).Sub(number(slot), number(to))
			if have, want := addr.Near(slot, to), distance.Sign() >= 0 && distance.Cmp(reach) < 0; have != want {
				t.Errorf("Near(%v, %v): %v", slot, to, have)
			}
		}
	}
}

// once is the addresses, rising, each once, without the package's own call: each is put in its place, if it is not there.
func once(l []api.Addr) []api.Addr {
	var row []api.Addr
	for _, a := range l {
		place := 0
		for place < len(row) && row[place] < a {
			place++
		}
		if place == len(row) || row[place] != a {
			row = slices.Insert(row, place, a)
		}
	}
	return row
}

// mixed is n addresses below limit, by a fixed rule.
func mixed(n int, limit uint64) []api.Addr {
	row := make([]api.Addr, n)
	seed := uint64(5)
	for i := range row {
		seed = seed*6364136223846793005 + 1442695040888963407
		row[i] = api.Addr((seed >> 11) % limit)
	}
	return row
}

// P5.4: Sorted, written out.
func TestSortedWrittenOut(t *testing.T) {
	for name, q := range map[string]struct{ l, want []api.Addr }{
		"none":                  {nil, nil},
		"none, and empty":       {[]api.Addr{}, nil},
		"no address":            {[]api.Addr{0}, []api.Addr{0}},
		"one":                   {[]api.Addr{9}, []api.Addr{9}},
		"the same again":        {[]api.Addr{9, 9}, []api.Addr{9}},
		"the same thrice":       {[]api.Addr{9, 9, 9}, []api.Addr{9}},
		"9 3 9":                 {[]api.Addr{9, 3, 9}, []api.Addr{3, 9}},
		"3 9 3":                 {[]api.Addr{3, 9, 3}, []api.Addr{3, 9}},
		"9 9 3 3":               {[]api.Addr{9, 9, 3, 3}, []api.Addr{3, 9}},
		"rising":                {[]api.Addr{1, 2, 3, 4}, []api.Addr{1, 2, 3, 4}},
		"falling":               {[]api.Addr{4, 3, 2, 1}, []api.Addr{1, 2, 3, 4}},
		"0 among others":        {[]api.Addr{2, 0, 1, 0}, []api.Addr{0, 1, 2}},
		"kept and not kept":     {[]api.Addr{16, 15, 17, 14, 16}, []api.Addr{14, 15, 16, 17}},
		"both ends":             {[]api.Addr{greatest, 0, greatest, 1 << 63, 0}, []api.Addr{0, 1 << 63, greatest}},
		"around the sign's bit": {[]api.Addr{1 << 63, math.MaxInt64, 1<<63 + 1, 1}, []api.Addr{1, math.MaxInt64, 1 << 63, 1<<63 + 1}},
		"one limb's two halves": {[]api.Addr{1 << 32, 1, 1<<32 + 1, 0xffffffff}, []api.Addr{1, 0xffffffff, 1 << 32, 1<<32 + 1}},
	} {
		if have := addr.Sorted(q.l); !slices.Equal(have, q.want) {
			t.Errorf("%s: %v; should be %v", name, have, q.want)
		}
	}
}

// P5.4: Sorted of many that are out of order; P5.5: it has just those that it was handed.
func TestSorted(t *testing.T) {
	rows := [][]api.Addr{addrs(), slices.Concat(addrs(), addrs()), make([]api.Addr, 1000)}
	for n := range 80 {
		rows = append(rows, mixed(n, 3), mixed(n, uint64(n)+1), mixed(n, 1<<53))
	}
	rows = append(rows, mixed(3000, 1000), mixed(3000, 1<<53), slices.Repeat([]api.Addr{7, 5}, 2000))
	for _, l := range rows {
		have := addr.Sorted(l)
		if want := once(l); !slices.Equal(have, want) {
			t.Errorf("Sorted(%v): %v; should be %v", l, have, want)
		}
		for _, a := range l {
			if !slices.Contains(have, a) {
				t.Errorf("Sorted(%v): %d is not there", l, a)
			}
		}
		for _, a := range have {
			if !slices.Contains(l, a) {
				t.Errorf("Sorted(%v): %d was not handed in", l, a)
			}
		}
	}
}

// P5.4: whatever the order of four is, the answer is the same.
func TestSortedOfAllOrders(t *testing.T) {
	few := []api.Addr{0, 3, 9, greatest}
	for n := range 256 {
		l := []api.Addr{few[n%4], few[n/4%4], few[n/16%4], few[n/64]}
		if have, want := addr.Sorted(l), once(l); !slices.Equal(have, want) {
			t.Errorf("Sorted(%v): %v; should be %v", l, have, want)
		}
	}
}

// P5.5: Of of Word is the address; Read of Bytes, too.
func TestThereAndBack(t *testing.T) {
	for _, a := range append(addrs(), mixed(500, math.MaxUint64)...) {
		if have := addr.Of(addr.Word(a)); have != a {
			t.Errorf("Of of Word of %d: %d", a, have)
		}
		if have, err := addr.Read(addr.Bytes(a)); have != a || err != api.OK {
			t.Errorf("Read of Bytes of %d: %d, %d", a, have, err)
		}
	}
}

// P5.5: each slot is near itself; two that are near one another both ways are one.
func TestNearBothWays(t *testing.T) {
	slots := words()
	for _, a := range addrs() {
		for n := range uint64(3) {
			slots = append(slots, addr.Slot(a, api.Word{n}))
		}
	}
	for _, w := range slots[:len(slots):len(slots)] {
		for _, by := range []uint64{1, 126, 127, 128} {
			w[0] += by
			slots = append(slots, w)
		}
	}
	for _, a := range slots {
		for _, b := range slots {
			if both := addr.Near(a, b) && addr.Near(b, a); both != (a == b) {
				t.Errorf("%v and %v: near both ways: %v", a, b, both)
			}
		}
	}
}

// R3: what is handed in stays as it is, the room behind its end, too, and is not kept; what is answered is new memory.
func TestNewMemory(t *testing.T) {
	l := []api.Addr{9, 3, 9, 0, 7, 7, 1}
	kept := slices.Clone(l)
	rising := addr.Sorted(l[:5])
	clear(rising[:cap(rising)])
	if !slices.Equal(l, kept) {
		t.Errorf("Sorted: what was handed in is %v now", l)
	}
	already := []api.Addr{1, 2, 3}
	rising = addr.Sorted(already)
	clear(already)
	if !slices.Equal(rising, []api.Addr{1, 2, 3}) {
		t.Errorf("Sorted: %v, once what was handed in is cleared", rising)
	}
	b := run(200)
	first, firstErr := addr.Read(b[:20])
	digest, created := addr.Digest(b[:100]), addr.Created(20, counted(), b[:100])
	if !bytes.Equal(b, run(200)) || firstErr != api.OK {
		t.Errorf("what was handed in is %v now, %d", b, firstErr)
	}
	clear(b[100:])
	again, _ := addr.Read(b[:20])
	if again != first || addr.Digest(b[:100]) != digest || addr.Created(20, counted(), b[:100]) != created {
		t.Error("what stands behind the end counts")
	}
	eightOf20 := addr.Bytes(20)
	clear(eightOf20[:cap(eightOf20)])
	if !bytes.Equal(addr.Bytes(20), eight(20)) {
		t.Errorf("Bytes: %v, once the last answer is cleared", addr.Bytes(20))
	}
}
