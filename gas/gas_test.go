package gas_test

import (
	"math"
	"slices"
	"testing"

	"sheafer/api"
	"sheafer/gas"
	"sheafer/word"
)

const most = math.MaxUint64

// allOnes is the greatest word.
var allOnes = api.Word{most, most, most, most}

// want fails, if got is not what is asked for.
func want(t *testing.T, what string, got, asked uint64) {
	t.Helper()
	if got != asked {
		t.Errorf("%s: %d, not %d", what, got, asked)
	}
}

// The chapter's table of examples.
func TestExamples(t *testing.T) {
	add, err := gas.Base(api.OpAdd)
	if err != api.OK {
		t.Error("ADD:", err)
	}
	want(t, "Base(ADD)", add, 3)
	if none, err := gas.Base(0x0c); none != 0 || err != api.ErrOp {
		t.Error("Base(0C):", none, err)
	}
	want(t, "Words(33)", gas.Words(33), 2)
	want(t, "Memory(0, 32)", gas.Memory(0, 32), 3)
	want(t, "Memory(0, 1024)", gas.Memory(0, 1024), 98)
	want(t, "Memory(32, 33)", gas.Memory(32, 33), 3)
	want(t, "Memory(0, 1025)", gas.Memory(0, 1025), api.NoGas)
	want(t, "Save(0, 5, cold)", gas.Save(api.Saving{Is: word.Of(5), Cold: true}), 2210)
	want(t, "Save(5, 5, warm)", gas.Save(api.Saving{Was: word.Of(5), Is: word.Of(5)}), 10)
	want(t, "Call(cold, value)", gas.Call(api.Calling{Cold: true, Value: true}), 1160)
	want(t, "Part(640)", gas.Part(640), 630)
	want(t, "Lend(640, 100)", gas.Lend(640, word.Of(100)), 100)
	if left, ok := gas.Spend(10, 3, 8); left != 0 || ok {
		t.Error("Spend(10, 3, 8):", left, ok)
	}
}

// P12.1: all bytes as operations.
func TestBase(t *testing.T) {
	costs := costsOfAll()
	if len(costs) != 114 {
		t.Fatal("operations that there are:", len(costs))
	}
	for c := range 256 {
		cost, there := costs[byte(c)]
		err := api.ErrOp
		if there {
			err = api.OK
		}
		if got, errGot := gas.Base(byte(c)); got != cost || errGot != err {
			t.Errorf("Base(%02x): %d, %d, not %d, %d", c, got, errGot, cost, err)
		}
	}
}

// P12.2: as many times 32 as hold them, near the greatest number, too.
func TestWords(t *testing.T) {
	for n, words := range map[uint64]uint64{
		0: 0, 1: 1, 31: 1, 32: 1, 33: 2, 63: 2, 64: 2, 65: 3, 1024: 32, 1025: 33,
		most: 1 << 59, most - 30: 1 << 59, most - 31: 1<<59 - 1, most - 32: 1<<59 - 1,
	} {
		want(t, "Words", gas.Words(n), words)
	}
	for _, n := range many() {
		want(t, "Words", gas.Words(n), plainWords(n).Uint64())
	}
}

// P12.2: memory's cost, by from and to.
func TestMemory(t *testing.T) {
	for _, c := range []struct{ from, to, cost uint64 }{
		{0, 0, 0}, {0, 1, 3}, {0, 31, 3}, {0, 33, 6}, {1, 32, 0}, {31, 33, 3}, {32, 64, 3},
		// 22 words are the least of which the square has 512 in it; 32 have it twice.
		{0, 22 * 32, 66}, {0, 23 * 32, 70}, {22 * 32, 23 * 32, 4}, {31 * 32, 32 * 32, 4}, {31 * 32, 1023, 4}, {0, 1023, 98},
		{1024, 1024, 0}, {1024, 1023, 0}, {64, 32, 0}, {5, 5, 0}, {1024, 0, 0},
		{1023, 1024, 0}, {1024, 1025, api.NoGas}, {1023, 1025, api.NoGas}, {0, most, api.NoGas},
		// It is not above from, though to is above what may be.
		{1025, 1025, 0}, {2000, 1500, 0}, {most, most, 0}, {most, 1025, 0}, {2000, 1024, 0}, {2000, 0, 0},
		{1025, 1026, api.NoGas}, {most - 1, most, api.NoGas},
	} {
		if got := gas.Memory(c.from, c.to); got != c.cost {
			t.Errorf("Memory(%d, %d): %d, not %d", c.from, c.to, got, c.cost)
		}
	}
	d := dice{seed: 1}
	for range 20000 {
		from, to := d.any(), d.any()
		want(t, "Memory", gas.Memory(from, to), plainMemory(from, to))
	}
}

// P12.2: the end that memory has to have.
func TestEnd(t *testing.T) {
	one := word.Of(1)
	for _, c := range []struct {
		at, n api.Word
		end   uint64
	}{
		{word.Of(0), word.Of(0), 0}, {word.Of(5), word.Of(0), 0}, {word.Of(most), word.Of(0), 0}, {allOnes, word.Of(0), 0},
		{word.Of(0), one, 1}, {word.Of(7), word.Of(32), 39}, {word.Of(1024), one, 1025},
		{word.Of(api.NoGas - 2), one, api.NoGas - 1}, {word.Of(api.NoGas - 1), one, api.NoGas}, {word.Of(api.NoGas), one, api.NoGas},
		{word.Of(0), word.Of(api.NoGas - 1), api.NoGas - 1}, {word.Of(0), word.Of(api.NoGas), api.NoGas}, {word.Of(0), word.Of(api.NoGas + 1), api.NoGas},
		// Sums that run over 64 bits, and 256.
		{word.Of(most), one, api.NoGas}, {one, word.Of(most), api.NoGas}, {word.Of(most), word.Of(8), api.NoGas},
		{allOnes, one, api.NoGas}, {one, allOnes, api.NoGas}, {allOnes, word.Of(40), api.NoGas}, {allOnes, allOnes, api.NoGas},
		// Words above 64 bits, whose lowest limb is small.
		{api.Word{5, 1}, one, api.NoGas}, {api.Word{5, 0, 1}, one, api.NoGas}, {api.Word{5, 0, 0, 1}, one, api.NoGas},
		{one, api.Word{5, 1}, api.NoGas}, {one, api.Word{0, 0, 0, 1}, api.NoGas}, {api.Word{0, 1}, api.Word{0, most, most, most}, api.NoGas},
	} {
		if got := gas.End(c.at, c.n); got != c.end {
			t.Errorf("End(%d, %d): %d, not %d", c.at, c.n, got, c.end)
		}
	}
	d := dice{seed: 2}
	for range 20000 {
		at, n := d.word(), d.word()
		want(t, "End", gas.End(at, n), plainEnd(at, n))
	}
}

// P12.3: bytes that are hashed, and copied, up to those that would cost NoGas.
func TestHashAndCopy(t *testing.T) {
	for _, c := range []struct{ n, hash, copy uint64 }{
		{0, 0, 0}, {1, 6, 3}, {31, 6, 3}, {32, 6, 3}, {33, 12, 6}, {64, 12, 6}, {1024, 192, 96}, {1025, 198, 99},
		// 2^40 is 6 times 183251937962, and 4 more, and 3 times 366503875925, and 1 more.
		{183251937962 * 32, 183251937962 * 6, 183251937962 * 3}, {183251937962*32 + 1, api.NoGas, 183251937963 * 3},
		{366503875925 * 32, api.NoGas, 366503875925 * 3}, {366503875925*32 + 1, api.NoGas, api.NoGas},
		{1 << 63, api.NoGas, api.NoGas}, {most - 31, api.NoGas, api.NoGas}, {most - 1, api.NoGas, api.NoGas}, {most, api.NoGas, api.NoGas},
	} {
		want(t, "Hash", gas.Hash(c.n), c.hash)
		want(t, "Copy", gas.Copy(c.n), c.copy)
	}
	for _, n := range many() {
		want(t, "Hash", gas.Hash(n), cost(times(plainWords(n), great(6))))
		want(t, "Copy", gas.Copy(n), cost(times(plainWords(n), great(3))))
	}
}

// P12.4: a slot that is read, and all kinds of one that is put, each cold and warm.
func TestLoadAndSave(t *testing.T) {
	want(t, "Load, cold", gas.Load(true), 210)
	want(t, "Load, warm", gas.Load(false), 10)
	for _, c := range []struct {
		was, is    api.Word
		warm, cold uint64
	}{
		{word.Of(0), word.Of(0), 10, 220},
		{word.Of(5), word.Of(5), 10, 220},
		{word.Of(0), word.Of(5), 2000, 2210},
		{word.Of(5), word.Of(0), 290, 500},
		{word.Of(5), word.Of(6), 290, 500},
		// Words of which one limb alone is not 0.
		{api.Word{0, 0, 0, 1}, word.Of(5), 290, 500},
		{word.Of(0), api.Word{0, 0, 0, 1}, 2000, 2210},
		{word.Of(5), api.Word{5, 1}, 290, 500},
		{allOnes, allOnes, 10, 220},
	} {
		want(t, "Save, warm", gas.Save(api.Saving{Was: c.was, Is: c.is}), c.warm)
		want(t, "Save, cold", gas.Save(api.Saving{Was: c.was, Is: c.is, Cold: true}), c.cold)
	}
}

// P12.5: an address that is reached, and all eight kinds of calling.
func TestFarAndCall(t *testing.T) {
	want(t, "Far, cold", gas.Far(true), 260)
	want(t, "Far, warm", gas.Far(false), 10)
	for c, cost := range map[api.Calling]uint64{
		{}:                                   10,
		{New: true}:                          10,
		{Value: true}:                        910,
		{Value: true, New: true}:             3410,
		{Cold: true}:                         260,
		{Cold: true, New: true}:              260,
		{Cold: true, Value: true}:            1160,
		{Cold: true, Value: true, New: true}: 3660,
	} {
		want(t, "Call", gas.Call(c), cost)
	}
}

// P12.6: what is created, and laid, up to bytes that would cost NoGas.
func TestCreateAndLay(t *testing.T) {
	for _, c := range []struct{ n, create, lay uint64 }{
		{0, 3200, 0}, {1, 3206, 20}, {31, 3206, 620}, {32, 3206, 640}, {33, 3212, 660}, {200, 3242, 4000}, {1025, 3398, 20500},
		// 2^40 is 20 times 54975581388, and 16 more; and 3200, and 6 times 183251937429, and 2 more.
		{54975581388, 3200 + 1717986919*6, 54975581388 * 20}, {54975581389, 3200 + 1717986919*6, api.NoGas},
		{183251937429 * 32, 3200 + 183251937429*6, api.NoGas}, {183251937429*32 + 1, api.NoGas, api.NoGas},
		// The product of these and 20 runs over, and is small.
		{(1<<64-1)/20 + 1, api.NoGas, api.NoGas}, {1 << 62, api.NoGas, api.NoGas}, {1 << 63, api.NoGas, api.NoGas}, {most, api.NoGas, api.NoGas},
	} {
		want(t, "Create", gas.Create(c.n), c.create)
		want(t, "Lay", gas.Lay(c.n), c.lay)
	}
	for _, n := range many() {
		want(t, "Create", gas.Create(n), cost(plus(great(3200), times(plainWords(n), great(6)))))
		want(t, "Lay", gas.Lay(n), cost(times(great(n), great(20))))
	}
}

// P12.7: what may be lent, and what is.
func TestPartAndLend(t *testing.T) {
	for left, part := range map[uint64]uint64{
		0: 0, 1: 1, 63: 63, 64: 63, 65: 64, 127: 126, 128: 126, 640: 630, 20000: 19688,
		most: most - (1<<58 - 1), most - 62: most - 62 - (1<<58 - 1), most - 63: most - 63 - (1<<58 - 1), most - 64: most - 64 - (1<<58 - 2),
	} {
		want(t, "Part", gas.Part(left), part)
		for _, c := range []struct {
			asked api.Word
			lent  uint64
		}{
			{word.Of(0), 0}, {word.Of(part), part}, {word.Of(most), part}, {word.Of(left), part}, {allOnes, part},
			{api.Word{0, 1}, part}, {api.Word{0, 0, 1}, part}, {api.Word{0, 0, 0, 1}, part}, {api.Word{part, 1}, part},
			{word.Of(part / 2), part / 2}, {word.Of(part - part/64), part - part/64},
		} {
			if got := gas.Lend(left, c.asked); got != c.lent {
				t.Errorf("Lend(%d, %d): %d, not %d", left, c.asked, got, c.lent)
			}
		}
		if part > 0 {
			want(t, "Lend, one less", gas.Lend(left, word.Of(part-1)), part-1)
		}
		want(t, "Lend, one more", gas.Lend(left, word.Of(part+1)), part)
	}
}

// P12.7: what is left when costs are spent, no costs at all, some that are too many, sums that run over.
func TestSpend(t *testing.T) {
	for _, c := range []struct {
		left uint64
		l    []uint64
		rest uint64
		ok   bool
	}{
		{0, nil, 0, true}, {10, nil, 10, true}, {most, nil, most, true}, {10, []uint64{}, 10, true},
		{10, []uint64{0}, 10, true}, {0, []uint64{0, 0}, 0, true}, {10, []uint64{3}, 7, true}, {10, []uint64{3, 7}, 0, true},
		{10, []uint64{3, 8}, 0, false}, {10, []uint64{11}, 0, false}, {10, []uint64{11, 0}, 0, false}, {0, []uint64{1}, 0, false},
		// One that is too many, with ones that would go behind it.
		{10, []uint64{4, 20, 3}, 0, false}, {10, []uint64{20, 4}, 0, false}, {10, []uint64{4, 20, 0, 0}, 0, false}, {10, []uint64{10, 1, 0}, 0, false},
		// Sums that run over 64 bits, and would be small.
		{10, []uint64{most, 5}, 0, false}, {10, []uint64{5, most}, 0, false}, {10, []uint64{1 << 63, 1 << 63}, 0, false}, {most, []uint64{most, most, 2}, 0, false},
		{most, []uint64{most}, 0, true}, {most, []uint64{most - 1, 1}, 0, true}, {most, []uint64{most, 1}, 0, false}, {most, []uint64{1 << 41}, most - 1<<41, true},
	} {
		if rest, ok := gas.Spend(c.left, c.l...); rest != c.rest || ok != c.ok {
			t.Errorf("Spend(%d, %d): %d, %t", c.left, c.l, rest, ok)
		}
	}
	d := dice{seed: 3}
	for range 20000 {
		left, l := d.any(), d.costs()
		rest, ok := gas.Spend(left, l...)
		if restAsked, okAsked := plainSpend(left, l...); rest != restAsked || ok != okAsked {
			t.Errorf("Spend(%d, %d): %d, %t", left, l, rest, ok)
		}
	}
}

// P12.8: more bytes, and more words, never cost less.
func TestMoreNeverCostsLess(t *testing.T) {
	all := many()
	slices.Sort(all)
	for name, of := range map[string]func(uint64) uint64{
		"Words": gas.Words, "Hash": gas.Hash, "Copy": gas.Copy, "Create": gas.Create, "Lay": gas.Lay, "Part": gas.Part,
		"Memory": func(to uint64) uint64 { return gas.Memory(0, to) },
		"End":    func(n uint64) uint64 { return gas.End(word.Of(70), word.Of(n)) },
		"Lend":   func(left uint64) uint64 { return gas.Lend(left, word.Of(500)) },
	} {
		for i := range all[1:] {
			if less, more := of(all[i]), of(all[i+1]); less > more {
				t.Errorf("%s: %d of %d, %d of %d", name, less, all[i], more, all[i+1])
			}
		}
	}
}

// P12.8: memory in steps costs what it costs at once, whatever the steps are.
func TestMemoryInSteps(t *testing.T) {
	for to := range uint64(1025) {
		whole := gas.Memory(0, to)
		for mid := range to + 1 {
			want(t, "two steps", gas.Memory(0, mid)+gas.Memory(mid, to), whole)
		}
		steps := uint64(0)
		for n := range to {
			steps += gas.Memory(n, n+1)
		}
		want(t, "byte by byte", steps, whole)
	}
}

// P12.8: what is lent and what stays are all that is left.
func TestWhatIsLentAndWhatStays(t *testing.T) {
	for _, left := range many() {
		part := gas.Part(left)
		want(t, "a 64th stays", left-part, left/64)
		if part > left || gas.Lend(left, allOnes) != part {
			t.Error("of", left, "there is lent", part)
		}
	}
}

// P12.8: what is spent one by one is spent together.
func TestSpentOneByOne(t *testing.T) {
	d := dice{seed: 4}
	for range 20000 {
		left, l := d.any(), d.costs()
		rest, ok := left, true
		for _, n := range l {
			if ok {
				rest, ok = gas.Spend(rest, n)
			}
		}
		if together, all := gas.Spend(left, l...); together != rest || all != ok {
			t.Errorf("Spend(%d, %d): %d, %t, and one by one %d, %t", left, l, together, all, rest, ok)
		}
		back := slices.Clone(l)
		slices.Reverse(back)
		if other, all := gas.Spend(left, back...); other != rest || all != ok {
			t.Errorf("Spend(%d, %d), the other way round: %d, %t", left, l, other, all)
		}
	}
}

// R3: the costs that are handed in stay as they are, and what is behind them, too.
func TestCostsStay(t *testing.T) {
	for _, left := range []uint64{0, 5, 6, 100, most} {
		room := []uint64{1, 2, 3, 70, 71}
		gas.Spend(left, room[:3]...)
		gas.Spend(left, room[:3:3]...)
		if !slices.Equal(room, []uint64{1, 2, 3, 70, 71}) {
			t.Error("of", left, "there was spent", room)
		}
	}
}

// many are the edges, and numbers thrown.
func many() []uint64 {
	d, all := dice{seed: 5}, edges()
	for n := range uint64(1100) {
		all = append(all, n)
	}
	for range 5000 {
		all = append(all, d.any())
	}
	return all
}

// costs throws some costs, often ones that are about what there is.
func (d *dice) costs() []uint64 {
	var l []uint64
	for range d.upTo(5) {
		if d.next()%2 == 0 {
			l = append(l, d.upTo(600))
			continue
		}
		l = append(l, d.any())
	}
	return l
}
