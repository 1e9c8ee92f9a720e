package nonce_test

import (
	"encoding/binary"
	"math/big"
	"slices"
	"strconv"
	"testing"

	"sheafer/api"
	"sheafer/nonce"
)

// plain is nonces as a map, against which the package's answers are held: of an address, and of a key in digits, how many were used.
type plain map[api.Addr]map[string]*big.Int

// parts are a word's key and sequence, as division by 2^64 has them.
func parts(word api.Word) (key, seq *big.Int) {
	return new(big.Int).QuoRem(number(word), new(big.Int).Lsh(big.NewInt(1), 64), new(big.Int))
}

// whole is the word of a key and a sequence.
func whole(key, seq *big.Int) api.Word {
	return word(new(big.Int).Add(new(big.Int).Mul(key, new(big.Int).Lsh(big.NewInt(1), 64)), seq))
}

func (p plain) next(a api.Addr, key *big.Int) *big.Int {
	if next, there := p[a][key.String()]; there {
		return next
	}
	return new(big.Int)
}

func (p plain) many() int {
	n := 0
	for _, of := range p {
		n += len(of)
	}
	return n
}

func (p plain) use(a api.Addr, word api.Word) api.Errno {
	key, seq := parts(word)
	next := p.next(a, key)
	_, there := p[a][key.String()]
	after := new(big.Int).Add(next, big.NewInt(1))
	switch {
	case a == 0:
		return api.ErrArg
	case seq.Cmp(next) != 0:
		return api.ErrNonce
	case after.BitLen() > 64 || !there && p.many() >= 48:
		return api.ErrFull
	}
	if p[a] == nil {
		p[a] = map[string]*big.Int{}
	}
	p[a][key.String()] = after
	return api.OK
}

// keys are those of an address that have a nonce, rising.
func (p plain) keys(a api.Addr) []*big.Int {
	var l []*big.Int
	for digits := range p[a] {
		key, _ := new(big.Int).SetString(digits, 10)
		l = append(l, key)
	}
	slices.SortFunc(l, (*big.Int).Cmp)
	return l
}

func (p plain) nonces() []api.Nonce {
	var addrs []api.Addr
	for a := range p {
		addrs = append(addrs, a)
	}
	slices.Sort(addrs)
	var l []api.Nonce
	for _, a := range addrs {
		for _, key := range p.keys(a) {
			l = append(l, of(a, word(key), p.next(a, key).Uint64()))
		}
	}
	return l
}

// number is w as math/big has it; word the way back, of 0 to 2^256 less 1.
func number(w api.Word) *big.Int {
	var row []byte
	for _, limb := range []int{3, 2, 1, 0} {
		row = binary.BigEndian.AppendUint64(row, w[limb])
	}
	return new(big.Int).SetBytes(row)
}

func word(n *big.Int) api.Word {
	row := n.FillBytes(make([]byte, 32))
	var w api.Word
	for limb := range w {
		w[3-limb] = binary.BigEndian.Uint64(row[8*limb:])
	}
	return w
}

// dice tells numbers by a fixed rule.
type dice struct{ seed uint64 }

func (d *dice) below(n int) int {
	d.seed = d.seed*6364136223846793005 + 1442695040888963407
	return int((d.seed >> 33) % uint64(n))
}

// addr is an address of a few, seldom 0.
func (d *dice) addr() api.Addr {
	switch d.below(20) {
	case 0:
		return 0
	case 1:
		return greatest
	default:
		return api.Addr(d.below(6) + 14)
	}
}

// key is one of a few, of each of the limbs that a key has.
func (d *dice) key() api.Word {
	var key api.Word
	for limb := range d.below(4) {
		key[limb] = []uint64{0, 1, 2, maxUint}[d.below(4)]
	}
	return key
}

// seq is the next sequence, mostly, or one about it.
func (d *dice) seq(next uint64) uint64 {
	switch d.below(12) {
	case 0:
		return next - 1
	case 1:
		return next + 1
	case 2:
		return []uint64{0, 1, seqEnd - 1, seqEnd}[d.below(4)]
	default:
		return next
	}
}

// begun are a few nonces to begin with, some of them near their end, and the same plainly.
func begun(d *dice) ([]api.Nonce, plain) {
	p := plain{}
	for range d.below(12) {
		a, next := d.addr(), uint64(d.below(3)+1)
		if d.below(2) == 0 {
			next = seqEnd - uint64(d.below(3))
		}
		if a == 0 {
			continue
		}
		if p[a] == nil {
			p[a] = map[string]*big.Int{}
		}
		p[a][number(d.key()).String()] = new(big.Int).SetUint64(next)
	}
	return p.nonces(), p
}

// P8.5, and all calls one behind the other: held against plain nonces, in which each address and each key is apart.
func TestAgainstPlain(t *testing.T) {
	seen := map[string]int{}
	for seed := range uint64(40) {
		d := &dice{seed}
		l, p := begun(d)
		used := map[pair]int{}
		for range 400 {
			a, key := d.addr(), d.key()
			next := whole(number(key), new(big.Int).SetUint64(d.seq(p.next(a, number(key)).Uint64())))
			was := slices.Clone(l)
			have, err := nonce.Use(l, a, next)
			want := p.use(a, next)
			seen[strconv.Itoa(int(err))]++
			if err != want || !slices.Equal(l, was) {
				t.Fatalf("Use(%d, %v): %d; should be %d; of %v, that was %v", a, next, err, want, l, was)
			}
			if err != api.OK {
				refused(t, "Use", have, err, want)
				continue
			}
			if used[pair{a, next}]++; used[pair{a, next}] > 1 {
				t.Fatalf("Use(%d, %v): used twice", a, next)
			}
			if want := p.nonces(); !slices.Equal(have, want) || !nonce.Same(have, want) || nonce.Check(have) != api.OK {
				t.Fatalf("Use(%d, %v): %v; should be %v", a, next, have, want)
			}
			l = have
			holdAsked(t, d, l, p)
		}
	}
	for _, err := range []string{"0", "2", "6", "181"} {
		if seen[err] < 100 {
			t.Errorf("the error %s: just %d times", err, seen[err])
		}
	}
}

// holdAsked holds what may be asked of l against p.
func holdAsked(t *testing.T, d *dice, l []api.Nonce, p plain) {
	t.Helper()
	for _, a := range []api.Addr{0, 13, 14, 15, 16, 17, 18, 19, 20, greatest} {
		var want []api.Word
		for _, key := range p.keys(a) {
			want = append(want, whole(key, p.next(a, key)))
		}
		if have := nonce.Of(l, a); !slices.Equal(have, want) {
			t.Fatalf("Of(%d): %v; should be %v", a, have, want)
		}
		key := d.key()
		has, err := nonce.Next(l, a, key)
		if a == 0 {
			says(t, "Next of 0", has, err, w(0), api.ErrArg)
			continue
		}
		says(t, "Next", has, err, whole(number(key), p.next(a, number(key))), api.OK)
	}
}

// P8.2: Split and Join, of words of many kinds, against division by 2^64.
func TestSplitJoinPlain(t *testing.T) {
	d := &dice{5}
	for range 5000 {
		var x api.Word
		for limb := range x {
			x[limb] = []uint64{0, 1, maxUint, uint64(d.below(1<<30)) << d.below(34)}[d.below(4)]
		}
		key, seq := nonce.Split(x)
		wantKey, wantSeq := parts(x)
		if number(key).Cmp(wantKey) != 0 || new(big.Int).SetUint64(seq).Cmp(wantSeq) != 0 {
			t.Fatalf("Split(%v): %v, %d", x, key, seq)
		}
		back, err := nonce.Join(key, seq)
		says(t, "Join of Split", back, err, x, api.OK)
		joined, err := nonce.Join(x, seq)
		if number(x).BitLen() > 192 {
			says(t, "Join of no key", joined, err, w(0), api.ErrArg)
			continue
		}
		says(t, "Join", joined, err, whole(number(x), new(big.Int).SetUint64(seq)), api.OK)
	}
}

// P8.5: a nonce word that was used is not the next one any more, whatever else is used behind it; the next one of its key is one more.
func TestUsedIsGone(t *testing.T) {
	var l []api.Nonce
	var gone []pair
	for n := range uint64(60) {
		a, key := api.Addr(20+n%3), w(n/3%4)
		next, err := nonce.Next(l, a, key)
		says(t, "Next", next, err, api.Word{n / 12, key[0]}, api.OK)
		if l, err = nonce.Use(l, a, next); err != api.OK {
			t.Fatalf("Use(%d, %v): %d", a, next, err)
		}
		after, err := nonce.Next(l, a, key)
		says(t, "Next behind Use", after, err, api.Word{n/12 + 1, key[0]}, api.OK)
		gone = append(gone, pair{a, next})
		for _, x := range gone {
			have, err := nonce.Use(l, x.a, x.word)
			refused(t, "used once more", have, err, api.ErrNonce)
			if slices.Contains(nonce.Of(l, x.a), x.word) {
				t.Errorf("Of(%d) has %v, which was used", x.a, x.word)
			}
		}
	}
}

// P8.5: the last sequence of a key is never used, so that none comes twice; other keys, and other addresses, go on.
func TestEndOfAKey(t *testing.T) {
	l := []api.Nonce{of(20, w(1), seqEnd-1), of(20, w(2), 5)}
	l, err := nonce.Use(l, 20, api.Word{seqEnd - 1, 1})
	holds(t, "the last but one", l, err, []api.Nonce{of(20, w(1), seqEnd), of(20, w(2), 5)})
	for _, seq := range []uint64{0, 1, 5, seqEnd - 1} {
		have, err := nonce.Use(l, 20, api.Word{seq, 1})
		refused(t, "behind the end", have, err, api.ErrNonce)
	}
	have, err := nonce.Use(l, 20, api.Word{seqEnd, 1})
	refused(t, "the last", have, err, api.ErrFull)
	next, err := nonce.Next(l, 20, w(1))
	says(t, "Next at the end", next, err, api.Word{seqEnd, 1}, api.OK)
	l, err = nonce.Use(l, 20, api.Word{5, 2})
	holds(t, "another key", l, err, []api.Nonce{of(20, w(1), seqEnd), of(20, w(2), 6)})
	l, err = nonce.Use(l, 21, up(1))
	holds(t, "another address", l, err, []api.Nonce{of(20, w(1), seqEnd), of(20, w(2), 6), of(21, w(1), 1)})
}

// P8.5: what is used comes to the same, in whatever order its keys and addresses come.
func TestOrders(t *testing.T) {
	words := []pair{{3, w(0)}, {20, w(0)}, {20, up(1)}, {20, api.Word{0, 0, 1}}, {greatest, up(1)}}
	want := []api.Nonce{of(3, w(0), 1), of(20, w(0), 1), of(20, w(1), 1), of(20, up(1), 1), of(greatest, w(1), 1)}
	for n := range 3125 {
		order := []int{n % 5, n / 5 % 5, n / 25 % 5, n / 125 % 5, n / 625}
		if len(slices.Compact(slices.Sorted(slices.Values(order)))) < 5 {
			continue
		}
		var l []api.Nonce
		var err api.Errno
		for _, i := range order {
			if l, err = nonce.Use(l, words[i].a, words[i].word); err != api.OK {
				t.Fatalf("Use(%d, %v): %d", words[i].a, words[i].word, err)
			}
		}
		holds(t, "used in another order", l, api.OK, want)
	}
}

// mayBe tells whether the nonces may be, word by word as the chapter says it.
func mayBe(l []api.Nonce) bool {
	for i, x := range l {
		if x.Addr == 0 || x.Next == 0 || number(x.Key).BitLen() > 192 {
			return false
		}
		for _, y := range l[:i] {
			if y.Addr > x.Addr || y.Addr == x.Addr && number(y.Key).Cmp(number(x.Key)) >= 0 {
				return false
			}
		}
	}
	return len(l) <= 48
}

// rising is up to 55 nonces that mostly rise; now and then one is anything at all.
func (d *dice) rising() []api.Nonce {
	var l []api.Nonce
	a, key := api.Addr(1), w(0)
	for range d.below(9) * d.below(8) {
		l = append(l, of(a, key, uint64(d.below(5)+1)))
		if d.below(3) == 0 {
			a, key = a+api.Addr(d.below(3)+1), w(0)
		} else {
			key[d.below(3)] += uint64(d.below(2) + 1)
		}
	}
	for d.below(2) == 0 && len(l) > 0 {
		x := &l[d.below(len(l))]
		switch d.below(4) {
		case 0:
			x.Addr = api.Addr(d.below(9))
		case 1:
			x.Key = api.Word{uint64(d.below(3)), uint64(d.below(2)), 0, uint64(d.below(2))}
		case 2:
			x.Next = uint64(d.below(2))
		default:
			*x = l[d.below(len(l))]
		}
	}
	return l
}

// R1: nonces that are anything at all: each call ends, and says ErrNonces just if they may not be.
func TestAnyNonces(t *testing.T) {
	d, fine := &dice{77}, 0
	for range 10000 {
		l, want := d.rising(), api.ErrNonces
		if mayBe(l) {
			fine, want = fine+1, api.OK
		}
		if err := nonce.Check(l); err != want {
			t.Fatalf("Check of %v: %d; should be %d", l, err, want)
		}
		a, key := api.Addr(d.below(9)), api.Word{uint64(d.below(3)), uint64(d.below(2)), 0, uint64(d.below(2))}
		if _, err := nonce.Next(l, a, key); (err == api.ErrNonces) != (want != api.OK) {
			t.Fatalf("Next of %v: %d", l, err)
		}
		if _, err := nonce.Use(l, a, key); (err == api.ErrNonces) != (want != api.OK) {
			t.Fatalf("Use of %v: %d", l, err)
		}
		if have := nonce.Of(l, a); want != api.OK && len(have) != 0 {
			t.Fatalf("Of of %v: %v", l, have)
		}
	}
	if fine < 2500 || fine > 7500 {
		t.Errorf("%d of them may be", fine)
	}
}
