package ledger_test

import (
	"encoding/binary"
	"maps"
	"math/big"
	"reflect"
	"slices"
	"strconv"
	"testing"

	"sheafer/api"
	"sheafer/ledger"
)

// owed is what is held for an address, plainly; locked stands by itself, so that nothing hangs on a Free of 0.
type owed struct {
	deposit, stake *big.Int
	delay, free    uint64
	locked         bool
}

// plain is a ledger as a map, against which the package's answers are held. For whom nothing is held is not in it.
type plain map[api.Addr]owed

func (p plain) of(a api.Addr) owed {
	if x, there := p[a]; there {
		return x
	}
	return owed{deposit: new(big.Int), stake: new(big.Int)}
}

func (p plain) lay(a api.Addr, x owed) {
	delete(p, a)
	if x.deposit.Sign() != 0 || x.stake.Sign() != 0 {
		p[a] = x
	}
}

func (p plain) sum() *big.Int {
	all := new(big.Int)
	for _, x := range p {
		all.Add(all, x.deposit)
		all.Add(all, x.stake)
	}
	return all
}

// room is the error of n more for an address.
func (p plain) room(a api.Addr, n *big.Int) api.Errno {
	_, there := p[a]
	switch {
	case new(big.Int).Add(p.sum(), n).BitLen() > 256:
		return api.ErrOver
	case !there && n.Sign() != 0 && len(p) >= 24:
		return api.ErrFull
	}
	return api.OK
}

func (p plain) deposit(a api.Addr, n *big.Int) api.Errno {
	if a == 0 {
		return api.ErrArg
	}
	if err := p.room(a, n); err != api.OK {
		return err
	}
	x := p.of(a)
	x.deposit = new(big.Int).Add(x.deposit, n)
	p.lay(a, x)
	return api.OK
}

func (p plain) withdraw(a api.Addr, n *big.Int) api.Errno {
	x := p.of(a)
	switch {
	case a == 0:
		return api.ErrArg
	case x.deposit.Cmp(n) < 0:
		return api.ErrFunds
	}
	x.deposit = new(big.Int).Sub(x.deposit, n)
	p.lay(a, x)
	return api.OK
}

func (p plain) bond(a api.Addr, n *big.Int, delay uint64) api.Errno {
	x := p.of(a)
	switch {
	case a == 0 || delay == 0 || delay > 1<<30 || delay < x.delay:
		return api.ErrArg
	case x.stake.Sign() == 0 && n.Sign() == 0:
		return api.ErrStake
	}
	if err := p.room(a, n); err != api.OK {
		return err
	}
	p.lay(a, owed{x.deposit, new(big.Int).Add(x.stake, n), delay, 0, true})
	return api.OK
}

func (p plain) unlock(a api.Addr, now uint64) api.Errno {
	x := p.of(a)
	switch {
	case a == 0 || now > 1<<40:
		return api.ErrArg
	case !x.locked:
		return api.ErrStake
	}
	x.locked, x.free = false, now+x.delay
	p.lay(a, x)
	return api.OK
}

func (p plain) release(a api.Addr, now uint64) (*big.Int, api.Errno) {
	x := p.of(a)
	switch {
	case a == 0 || now > 1<<40:
		return new(big.Int), api.ErrArg
	case x.stake.Sign() == 0:
		return new(big.Int), api.ErrStake
	case x.locked || now < x.free:
		return new(big.Int), api.ErrLocked
	}
	p.lay(a, owed{deposit: x.deposit, stake: new(big.Int)})
	return x.stake, api.OK
}

func (p plain) ledger() api.Ledger {
	var l api.Ledger
	for _, a := range slices.Sorted(maps.Keys(p)) {
		x := p[a]
		l.Rows = append(l.Rows, both(a, word(x.deposit), word(x.stake), x.delay, x.free))
	}
	return l
}

// number is w as math/big has it; word the way back, of 0 to 2^256 less 1.
func number(w api.Word) *big.Int {
	var row []byte
	for _, limb := range []int{3, 2, 1, 0} {
		row = binary.BigEndian.AppendUint64(row, w[limb])
	}
	return new(big.Int).SetBytes(row)
}

func word(n *big.Int) api.Word {
	row := n.FillBytes(make([]byte, 32))
	var w api.Word
	for limb := range w {
		w[3-limb] = binary.BigEndian.Uint64(row[8*limb:])
	}
	return w
}

// dice tells numbers by a fixed rule.
type dice struct{ seed uint64 }

func (d *dice) below(n int) int {
	d.seed = d.seed*6364136223846793005 + 1442695040888963407
	return int((d.seed >> 33) % uint64(n))
}

// addr is an address, seldom 0; one of a few, or of more than there may be rows.
func (d *dice) addr() api.Addr {
	if d.below(2) == 0 {
		return api.Addr(d.below(5) + 20)
	}
	return api.Addr(d.below(40))
}

// amount is a number about what somebody has, or a small one, or a great one.
func (d *dice) amount(has *big.Int) *big.Int {
	switch d.below(16) {
	case 0, 1:
		return new(big.Int)
	case 2, 3, 4, 5:
		return new(big.Int).Set(has)
	case 6, 7:
		return number(word(new(big.Int).And(new(big.Int).Add(has, big.NewInt(1)), number(most()))))
	case 8:
		return number([]api.Word{half(), lessHalf(), most(), less(9)}[d.below(4)])
	case 9:
		return new(big.Int).Rsh(has, 1)
	default:
		return big.NewInt(int64(d.below(30)))
	}
}

// delay is one about that which there is, mostly a small one.
func (d *dice) delay(has uint64) uint64 {
	switch d.below(20) {
	case 0:
		return []uint64{delayEnd - 1, delayEnd, delayEnd + 1, maxUint}[d.below(4)]
	case 1, 2, 3:
		return has
	case 4, 5:
		return has + 1
	case 6, 7:
		return max(has, 1) - 1
	default:
		return uint64(d.below(20))
	}
}

// time is one about that at which a stake comes free, mostly a small one.
func (d *dice) time(free uint64) uint64 {
	switch d.below(16) {
	case 0:
		return []uint64{timeEnd - 1, timeEnd, timeEnd + 1, maxUint}[d.below(4)]
	case 1, 2, 3, 4:
		return free
	case 5, 6:
		return max(free, 1) - 1
	case 7:
		return free + 1
	default:
		return uint64(d.below(40))
	}
}

// did is a call that was done: its name, for whom, what it answered, and what a plain one says; what was put in is below 0, if it was taken out.
type did struct {
	name              string
	a                 api.Addr
	have              api.Ledger
	err, want         api.Errno
	stake, wantsStake api.Word
	in                *big.Int
}

// step does something, as the dice say, to both: l, and p, which becomes what it should be.
func step(d *dice, l api.Ledger, p plain) did {
	a := d.addr()
	x := p.of(a)
	done := did{a: a, in: new(big.Int)}
	switch d.below(6) {
	case 0:
		done.name, done.in = "Deposit", d.amount(x.deposit)
		done.have, done.err = ledger.Deposit(l, a, word(done.in))
		done.want = p.deposit(a, done.in)
	case 1:
		n := d.amount(x.deposit)
		done.name, done.in = "Withdraw", new(big.Int).Neg(n)
		done.have, done.err = ledger.Withdraw(l, a, word(n))
		done.want = p.withdraw(a, n)
	case 2:
		delay := d.delay(x.delay)
		done.name, done.in = "Bond", d.amount(x.stake)
		done.have, done.err = ledger.Bond(l, a, word(done.in), delay)
		done.want = p.bond(a, done.in, delay)
	case 3, 4:
		now := d.time(x.free)
		done.name = "Unlock"
		done.have, done.err = ledger.Unlock(l, a, now)
		done.want = p.unlock(a, now)
	default:
		now := d.time(x.free)
		done.name = "Release"
		done.have, done.stake, done.err = ledger.Release(l, a, now)
		stake, err := p.release(a, now)
		done.want, done.wantsStake, done.in = err, word(stake), new(big.Int).Neg(stake)
	}
	return done
}

// P7.6, and all calls one behind the other: held against a plain ledger, in which each address is apart.
func TestAgainstPlain(t *testing.T) {
	seen := map[string]int{}
	for seed := range uint64(20) {
		d, l, p := &dice{seed}, api.Ledger{}, plain{}
		for n := range 1500 {
			was, sum := slices.Clone(l.Rows), number(ledger.Sum(l))
			done := step(d, l, p)
			seen[done.name+" "+strconv.Itoa(int(done.err))]++
			if done.err != done.want || done.stake != done.wantsStake {
				t.Fatalf("%s of %d: %d, %v; should be %d, %v; of %v", done.name, done.a, done.err, done.stake, done.want, done.wantsStake, l)
			}
			if !slices.Equal(l.Rows, was) {
				t.Fatalf("%s: what was handed in is another one", done.name)
			}
			if done.err != api.OK {
				refused(t, done.name, done.have, done.err, done.want)
				continue
			}
			others(t, done, l)
			l = done.have
			if want := p.ledger(); !slices.Equal(l.Rows, want.Rows) || !ledger.Same(l, want) || ledger.Check(l) != api.OK {
				t.Fatalf("%s: %v; should be %v", done.name, l, want)
			}
			if have := number(ledger.Sum(l)); have.Cmp(p.sum()) != 0 || have.Cmp(sum.Add(sum, done.in)) != 0 {
				t.Fatalf("%s of %v: the Sum %v; should be %v", done.name, done.in, have, p.sum())
			}
			if n%10 == 0 {
				holdAsked(t, done.name, l, p)
			}
		}
	}
	for _, name := range []string{"Deposit 0", "Deposit 2", "Deposit 171", "Deposit 6", "Withdraw 0", "Withdraw 2", "Withdraw 162", "Bond 0", "Bond 2", "Bond 172", "Bond 171", "Bond 6",
		"Unlock 0", "Unlock 2", "Unlock 172", "Release 0", "Release 2", "Release 172", "Release 173"} {
		if seen[name] < 20 {
			t.Errorf("%s: just %d times", name, seen[name])
		}
	}
}

// others fails, unless all rows but that of whom it was done for are what they were.
func others(t *testing.T, done did, was api.Ledger) {
	t.Helper()
	left := func(l api.Ledger) []api.Held {
		return slices.DeleteFunc(slices.Clone(l.Rows), func(x api.Held) bool { return x.Addr == done.a })
	}
	if !slices.Equal(left(was), left(done.have)) {
		t.Fatalf("%s of %d: %v; the others were %v", done.name, done.a, done.have, was)
	}
	x, y := ledger.Find(was, done.a), ledger.Find(done.have, done.a)
	if done.name == "Deposit" || done.name == "Withdraw" {
		x.Deposit, y.Deposit = api.Word{}, api.Word{}
	} else {
		x.Stake, x.Delay, x.Free, y.Stake, y.Delay, y.Free = api.Word{}, 0, 0, api.Word{}, 0, 0
	}
	if x != y {
		t.Fatalf("%s of %d: deposits and stakes touch one another: %v, %v", done.name, done.a, was, done.have)
	}
}

// holdAsked holds what may be asked of l against p.
func holdAsked(t *testing.T, name string, l api.Ledger, p plain) {
	t.Helper()
	for a := range api.Addr(41) {
		x := p.of(a)
		if have, want := ledger.Find(l, a), both(a, word(x.deposit), word(x.stake), x.delay, x.free); have != want {
			t.Fatalf("%s: Find(%d): %v; should be %v", name, a, have, want)
		}
		for _, least := range []api.Word{{}, w(1), word(x.stake), {0, 0, 0, 1}} {
			for _, delay := range []uint64{0, x.delay, x.delay + 1} {
				want := x.locked && x.stake.Cmp(number(least)) >= 0 && x.delay >= delay
				if have := ledger.Staked(l, a, least, delay); have != want {
					t.Fatalf("%s: Staked(%d, %v, %d): %v, of %v", name, a, least, delay, have, l)
				}
			}
		}
	}
}

// P7.6: a stake that was locked is out at the earliest its Delay behind an Unlock, to the last time; till then it is not, whatever is asked.
func TestDelayPasses(t *testing.T) {
	for _, delay := range []uint64{1, 2, 100, 5000} {
		for _, at := range []uint64{0, 1, 50, timeEnd - 5000} {
			l, _ := ledger.Bond(of(put(20, w(3))), 20, w(5), delay)
			for _, now := range []uint64{0, at, at + delay, timeEnd} {
				have, _, err := ledger.Release(l, 20, now)
				refused(t, "locked", have, err, api.ErrLocked)
			}
			l, err := ledger.Unlock(l, 20, at)
			holds(t, "Unlock", l, err, of(both(20, w(3), w(5), delay, at+delay)))
			for now := at; now < at+delay; now += max(1, delay/7) {
				have, _, err := ledger.Release(l, 20, now)
				refused(t, "not free yet", have, err, api.ErrLocked)
				have, err = ledger.Unlock(l, 20, now)
				refused(t, "not locked any more", have, err, api.ErrStake)
			}
			have, _, err := ledger.Release(l, 20, at+delay-1)
			refused(t, "one ahead", have, err, api.ErrLocked)
			have, stake, err := ledger.Release(l, 20, at+delay)
			if holds(t, "Release", have, err, of(put(20, w(3)))); stake != w(5) {
				t.Errorf("Release: %v", stake)
			}
		}
	}
}

// P7.6: a Bond between an Unlock and a Release locks again, even one of nothing, even once the stake is free.
func TestBondLocksAgain(t *testing.T) {
	for _, more := range []api.Word{{}, w(1), {0, 1}} {
		for _, delay := range []uint64{100, 101, delayEnd} {
			l := of(both(20, w(3), w(5), 100, 150), put(30, w(1)))
			total := word(new(big.Int).Add(big.NewInt(5), number(more)))
			l, err := ledger.Bond(l, 20, more, delay)
			holds(t, "Bond", l, err, of(both(20, w(3), total, delay, 0), put(30, w(1))))
			if !ledger.Staked(l, 20, total, delay) {
				t.Errorf("%v is not Staked", l)
			}
			for _, now := range []uint64{149, 150, 151, timeEnd} {
				have, _, err := ledger.Release(l, 20, now)
				refused(t, "Release", have, err, api.ErrLocked)
			}
			l, err = ledger.Unlock(l, 20, 200)
			holds(t, "Unlock", l, err, of(both(20, w(3), total, delay, 200+delay), put(30, w(1))))
			have, _, err := ledger.Release(l, 20, 199+delay)
			refused(t, "one ahead", have, err, api.ErrLocked)
			have, stake, err := ledger.Release(l, 20, 200+delay)
			if holds(t, "Release", have, err, of(put(20, w(3)), put(30, w(1)))); stake != total {
				t.Errorf("Release: %v; should be %v", stake, total)
			}
		}
	}
}

// P7.6: behind a Release the Delay counts no more: a Bond may have a lesser one.
func TestReleaseForgetsTheDelay(t *testing.T) {
	for _, l := range []api.Ledger{of(bound(20, w(5), 100, 150)), of(both(20, w(3), w(5), 100, 150))} {
		have, err := ledger.Bond(l, 20, w(1), 99)
		refused(t, "a lesser Delay", have, err, api.ErrArg)
		l, _, _ = ledger.Release(l, 20, 150)
		l, err = ledger.Bond(l, 20, w(1), 1)
		holds(t, "a lesser Delay behind Release", l, err, with(l, both(20, ledger.Find(l, 20).Deposit, w(1), 1, 0)))
	}
}

// P7.6: the rows come to the same in whatever order they came.
func TestOrders(t *testing.T) {
	want := of(put(3, w(2)), both(16, w(1), w(4), 9, 0), bound(20, w(5), 9, 0), put(greatest, w(1)))
	for n := range 256 {
		order := []int{n % 4, n / 4 % 4, n / 16 % 4, n / 64}
		if len(slices.Compact(slices.Sorted(slices.Values(order)))) < 4 {
			continue
		}
		l := of()
		for _, i := range order {
			x := want.Rows[i]
			l, _ = ledger.Deposit(l, x.Addr, x.Deposit)
			if x.Delay > 0 {
				l, _ = ledger.Bond(l, x.Addr, x.Stake, x.Delay)
			}
		}
		holds(t, "rows in another order", l, api.OK, want)
	}
}

// changes are calls that answer a ledger, each of which goes well.
func changes() map[string]func(l api.Ledger) (api.Ledger, api.Errno) {
	return map[string]func(l api.Ledger) (api.Ledger, api.Errno){
		"Deposit, ahead":       func(l api.Ledger) (api.Ledger, api.Errno) { return ledger.Deposit(l, 3, w(5)) },
		"Deposit, between":     func(l api.Ledger) (api.Ledger, api.Errno) { return ledger.Deposit(l, 25, w(5)) },
		"Deposit, behind":      func(l api.Ledger) (api.Ledger, api.Errno) { return ledger.Deposit(l, 50, w(5)) },
		"Deposit, in place":    func(l api.Ledger) (api.Ledger, api.Errno) { return ledger.Deposit(l, 20, w(5)) },
		"Deposit, nothing":     func(l api.Ledger) (api.Ledger, api.Errno) { return ledger.Deposit(l, 20, w(0)) },
		"Deposit, none":        func(l api.Ledger) (api.Ledger, api.Errno) { return ledger.Deposit(l, 50, w(0)) },
		"Withdraw":             func(l api.Ledger) (api.Ledger, api.Errno) { return ledger.Withdraw(l, 30, w(1)) },
		"Withdraw, the first":  func(l api.Ledger) (api.Ledger, api.Errno) { return ledger.Withdraw(l, 18, w(7)) },
		"Withdraw, one gone":   func(l api.Ledger) (api.Ledger, api.Errno) { return ledger.Withdraw(l, 30, w(9)) },
		"Withdraw, nothing":    func(l api.Ledger) (api.Ledger, api.Errno) { return ledger.Withdraw(l, 30, w(0)) },
		"Withdraw, none":       func(l api.Ledger) (api.Ledger, api.Errno) { return ledger.Withdraw(l, 50, w(0)) },
		"Bond":                 func(l api.Ledger) (api.Ledger, api.Errno) { return ledger.Bond(l, 25, w(5), 9) },
		"Bond, in place":       func(l api.Ledger) (api.Ledger, api.Errno) { return ledger.Bond(l, 40, w(5), 100) },
		"Bond, as it is":       func(l api.Ledger) (api.Ledger, api.Errno) { return ledger.Bond(l, 20, w(0), 100) },
		"Unlock":               func(l api.Ledger) (api.Ledger, api.Errno) { return ledger.Unlock(l, 20, 50) },
		"Release, a Deposit":   func(l api.Ledger) (api.Ledger, api.Errno) { l, _, err := ledger.Release(l, 40, 150); return l, err },
		"Release, the last":    func(l api.Ledger) (api.Ledger, api.Errno) { l, _, err := ledger.Release(l, 45, 150); return l, err },
		"Release, behind Free": func(l api.Ledger) (api.Ledger, api.Errno) { l, _, err := ledger.Release(l, 45, 999); return l, err },
	}
}

// roomy is a ledger with room behind its rows' end, in which something stands.
func roomy() api.Ledger {
	rows := []api.Held{put(18, w(7)), both(20, w(7), w(5), 100, 0), put(30, w(9)), both(40, w(7), w(6), 100, 150), bound(45, w(6), 100, 150),
		put(77, w(1)), bound(78, w(1), 1, 0), {}, {}}
	return of(rows[:5]...)
}

// R3: what is handed in stays as it is, the room behind its end, too, and is not kept: neither changes with the other one.
func TestNewMemory(t *testing.T) {
	room := func(l api.Ledger) []api.Held { return l.Rows[:cap(l.Rows)] }
	for name, call := range changes() {
		l := roomy()
		have, err := call(l)
		want := slices.Clone(have.Rows)
		if err != api.OK || !slices.Equal(room(l), room(roomy())) {
			t.Errorf("%s: what was handed in is %v now, %d", name, room(l), err)
		}
		clear(room(l))
		if !slices.Equal(have.Rows, want) {
			t.Errorf("%s: %v, once what was handed in is cleared; should be %v", name, have, want)
		}
		l = roomy()
		have, _ = call(l)
		clear(room(have))
		if !slices.Equal(room(l), room(roomy())) {
			t.Errorf("%s: what was handed in is %v, once the answer is cleared", name, room(l))
		}
	}
}

// R3: what is asked, and what is refused, changes nothing.
func TestAskedStays(t *testing.T) {
	l := roomy()
	ledger.Check(l)
	ledger.Same(l, l)
	ledger.Find(l, 20)
	ledger.Sum(l)
	ledger.Staked(l, 20, w(1), 1)
	for name, call := range answers() {
		for _, a := range []api.Addr{0, 45, 50} {
			if have, err := call(l, a, most(), 0); err == api.OK {
				t.Errorf("%s of %d: %v, without an error", name, a, have)
			}
		}
	}
	if !slices.Equal(l.Rows[:cap(l.Rows)], roomy().Rows[:cap(roomy().Rows)]) {
		t.Errorf("what was handed in is %v now", l)
	}
}

// R3: nil and empty rows are one, in what is handed in and in what is answered.
func TestNilAndEmpty(t *testing.T) {
	none, empty := of(), api.Ledger{Rows: []api.Held{}}
	for name, call := range answers() {
		for _, n := range []api.Word{{}, w(3)} {
			a, errA := call(none, 20, n, 9)
			b, errB := call(empty, 20, n, 9)
			if errA != errB || !reflect.DeepEqual(a, b) {
				t.Errorf("%s: %#v, %d; %#v, %d", name, a, errA, b, errB)
			}
		}
	}
	gone, err := ledger.Withdraw(of(put(20, w(7))), 20, w(7))
	if err != api.OK || !reflect.DeepEqual(gone, none) || !ledger.Same(none, empty) {
		t.Errorf("%#v, %d", gone, err)
	}
}

// row is a row that is anything at all, most often one that may be.
func (d *dice) row(a api.Addr) api.Held {
	x := both(a, word(d.amount(number(half()))), word(d.amount(number(lessHalf()))), 0, 0)
	if d.below(9) == 0 || x.Stake != (api.Word{}) && d.below(9) > 0 {
		x.Delay = d.delay(9)
	}
	if d.below(9) == 0 || x.Stake != (api.Word{}) && d.below(2) > 0 {
		x.Free = []uint64{1, 9, d.time(50), greatestFree, greatestFree + 1}[d.below(5)]
	}
	return x
}

// mayBe tells whether the ledger may be, word by word as the chapter says it.
func mayBe(l api.Ledger) bool {
	all := new(big.Int)
	for i, x := range l.Rows {
		stake := x.Stake != api.Word{}
		switch {
		case x.Addr == 0, i > 0 && l.Rows[i-1].Addr >= x.Addr:
			return false
		case x.Delay > 1<<30, x.Free > 1<<40+1<<30:
			return false
		case (x.Delay != 0) != stake, x.Free != 0 && !stake, !stake && x.Deposit == api.Word{}:
			return false
		}
		all.Add(all, number(x.Deposit))
		all.Add(all, number(x.Stake))
	}
	return len(l.Rows) <= 24 && all.BitLen() <= 256
}

// R1: ledgers that are anything at all: each call ends, and says ErrLedger just if they may not be.
func TestAnyLedgers(t *testing.T) {
	d, fine := &dice{77}, 0
	for range 10000 {
		var l api.Ledger
		for a := api.Addr(d.below(9)); len(l.Rows) < 26 && d.below(3) > 0; a += api.Addr(d.below(20)) {
			l.Rows = append(l.Rows, d.row(a))
		}
		want := api.OK
		if mayBe(l) {
			fine++
		} else {
			want = api.ErrLedger
		}
		if err := ledger.Check(l); err != want {
			t.Fatalf("Check of %v: %d; should be %d", l, err, want)
		}
		for range 5 {
			if done := step(d, l, plain{}); (done.err == api.ErrLedger) != (want == api.ErrLedger) {
				t.Fatalf("%s of %v: %d", done.name, l, done.err)
			}
		}
	}
	if fine < 2500 || fine > 7500 {
		t.Errorf("%d of them may be", fine)
	}
}
