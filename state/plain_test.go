package state_test

import (
	"maps"
	"math/big"
	"reflect"
	"slices"
	"strconv"
	"testing"

	"sheafer/api"
	"sheafer/state"
)

// had is what an address has, plainly.
type had struct {
	balance *big.Int
	nonce   uint64
	code    string
	store   map[api.Word]api.Word
}

// plain is a state as a map, against which the package's answers are held. Who has nothing is not in it.
type plain map[api.Addr]had

func (p plain) of(a api.Addr) had {
	if x, there := p[a]; there {
		x.store = maps.Clone(x.store)
		return x
	}
	return had{balance: new(big.Int), store: map[api.Word]api.Word{}}
}

func (p plain) lay(a api.Addr, x had) {
	delete(p, a)
	if x.balance.Sign() != 0 || x.nonce != 0 || x.code != "" || len(x.store) != 0 {
		p[a] = x
	}
}

func (p plain) room(a api.Addr) bool {
	others := 0
	for b := range p {
		if b >= 16 && b != a {
			others++
		}
	}
	_, there := p[a]
	return a != 0 && (there || a < 16 || others < 24)
}

func (p plain) total() *big.Int {
	sum := new(big.Int)
	for _, x := range p {
		sum.Add(sum, x.balance)
	}
	return sum
}

// tooMuch tells whether all together, and n more, are 2^256 at least.
func (p plain) tooMuch(n *big.Int) bool {
	return new(big.Int).Add(p.total(), n).BitLen() > 256
}

func (p plain) account(a api.Addr) api.Account {
	x := p.of(a)
	l := api.Account{Addr: a, Balance: word(x.balance), Nonce: x.nonce, Code: []byte(x.code)}
	for _, key := range slices.SortedFunc(maps.Keys(x.store), func(k, l api.Word) int { return number(k).Cmp(number(l)) }) {
		l.Store = append(l.Store, api.Pair{Key: key, Val: x.store[key]})
	}
	return l
}

func (p plain) state() api.State {
	var s api.State
	for _, a := range slices.Sorted(maps.Keys(p)) {
		s.Accounts = append(s.Accounts, p.account(a))
	}
	return s
}

func (p plain) put(x api.Account) api.Errno {
	y := had{number(x.Balance), x.Nonce, string(x.Code), map[api.Word]api.Word{}}
	for _, q := range x.Store {
		y.store[q.Key] = q.Val
	}
	one := plain{}
	one.lay(x.Addr, y)
	switch gain := new(big.Int).Sub(y.balance, p.of(x.Addr).balance); {
	case x.Addr == 0 || len(y.store) < len(x.Store) || len(y.store) > 24 || len(y.code) > 200:
		return api.ErrAccount
	case len(one) > 0 && !p.room(x.Addr):
		return api.ErrFull
	case p.tooMuch(gain):
		return api.ErrArg
	}
	p.lay(x.Addr, y)
	return api.OK
}

func (p plain) save(a api.Addr, q api.Pair) api.Errno {
	if a == 0 {
		return api.ErrArg
	}
	x := p.of(a)
	delete(x.store, q.Key)
	if q.Val != (api.Word{}) {
		x.store[q.Key] = q.Val
		if len(x.store) > 24 || !p.room(a) {
			return api.ErrFull
		}
	}
	p.lay(a, x)
	return api.OK
}

func (p plain) move(from, to api.Addr, n *big.Int) api.Errno {
	switch {
	case from == 0 || to == 0:
		return api.ErrArg
	case p.of(from).balance.Cmp(n) < 0:
		return api.ErrFunds
	case n.Sign() == 0 || from == to:
		return api.OK
	case !p.room(to):
		return api.ErrFull
	}
	p.add(from, new(big.Int).Neg(n))
	p.add(to, n)
	return api.OK
}

func (p plain) mint(a api.Addr, n *big.Int) api.Errno {
	switch {
	case a == 0 || p.tooMuch(n):
		return api.ErrArg
	case n.Sign() == 0:
		return api.OK
	case !p.room(a):
		return api.ErrFull
	}
	p.add(a, n)
	return api.OK
}

func (p plain) burn(a api.Addr, n *big.Int) api.Errno {
	switch {
	case a == 0:
		return api.ErrArg
	case p.of(a).balance.Cmp(n) < 0:
		return api.ErrFunds
	}
	p.add(a, new(big.Int).Neg(n))
	return api.OK
}

func (p plain) add(a api.Addr, n *big.Int) {
	x := p.of(a)
	x.balance = new(big.Int).Add(x.balance, n)
	p.lay(a, x)
}

// dice tells numbers by a fixed rule.
type dice struct{ seed uint64 }

func (d *dice) below(n int) int {
	d.seed = d.seed*6364136223846793005 + 1442695040888963407
	return int((d.seed >> 33) % uint64(n))
}

// addr is an address, seldom 0, of kept ones and of more others than there may be.
func (d *dice) addr() api.Addr {
	if n := d.below(40); n >= 5 {
		return api.Addr(n + 8)
	}
	return api.Addr(d.below(5))
}

// amount is a number about what the address has, or a small one, or a great one.
func (d *dice) amount(has *big.Int) *big.Int {
	switch d.below(12) {
	case 0:
		return new(big.Int)
	case 1, 2, 3:
		return new(big.Int).Set(has)
	case 4:
		return atMost(new(big.Int).Add(has, big.NewInt(1)))
	case 5:
		return number(half())
	case 6:
		return number(lessHalf())
	case 7:
		return number(most())
	case 8:
		return new(big.Int).Rsh(has, 1)
	default:
		return big.NewInt(int64(d.below(30)))
	}
}

// atMost is n, or the greatest number of a word, if that is less.
func atMost(n *big.Int) *big.Int {
	if end := number(most()); n.Cmp(end) > 0 {
		return end
	}
	return n
}

// pair is a slot, often one of 0; of 26 keys.
func (d *dice) pair() api.Pair {
	key := w(uint64(d.below(26)))
	if d.below(4) == 0 {
		key = api.Word{0, 0, 0, key[0]}
	}
	if d.below(3) == 0 {
		return api.Pair{Key: key}
	}
	return api.Pair{Key: key, Val: api.Word{uint64(d.below(5)), 0, 0, 1}}
}

// account is an account, often an empty one.
func (d *dice) account(p plain) api.Account {
	x := api.Account{Addr: d.addr()}
	if d.below(2) == 0 {
		x.Balance = word(d.amount(p.of(x.Addr).balance))
	}
	if d.below(4) == 0 {
		x.Nonce = uint64(d.below(3))
		x.Code = make([]byte, d.below(4)*67)
	}
	if d.below(4) == 0 {
		x.Store = keys(3, d.below(26))
	}
	return x
}

// did is a call that was done: its name, what it answered, and what a plain one says.
type did struct {
	name      string
	have      api.State
	err, want api.Errno
}

// step does something, as the dice say, to both: s, and p, which becomes what it should be.
func step(d *dice, s api.State, p plain) did {
	a := d.addr()
	has := p.of(a).balance
	switch d.below(6) {
	case 0:
		x := d.account(p)
		have, err := state.Put(s, x)
		return did{"Put", have, err, p.put(x)}
	case 1, 2:
		if d.below(2) == 0 {
			a = 20
		}
		q := d.pair()
		have, err := state.Save(s, a, q)
		return did{"Save", have, err, p.save(a, q)}
	case 3:
		to, n := d.addr(), d.amount(has)
		have, err := state.Move(s, a, to, word(n))
		return did{"Move", have, err, p.move(a, to, n)}
	case 4:
		n := d.amount(has)
		have, err := state.Mint(s, a, word(n))
		return did{"Mint", have, err, p.mint(a, n)}
	default:
		n := d.amount(has)
		have, err := state.Burn(s, a, word(n))
		return did{"Burn", have, err, p.burn(a, n)}
	}
}

// P6.5, and all calls one behind the other: held against a plain state, in which each address is apart.
func TestAgainstPlain(t *testing.T) {
	seen := map[string]int{}
	for seed := range uint64(10) {
		d, s, p := &dice{seed}, api.State{}, plain{}
		for n := range 1200 {
			was := dup(s)
			done := step(d, s, p)
			seen[done.name+" "+strconv.Itoa(int(done.err))]++
			if done.err != done.want {
				t.Fatalf("%s: %d; should be %d; of %v", done.name, done.err, done.want, s)
			}
			if !alike(s, was) {
				t.Fatalf("%s: what was handed in is another one", done.name)
			}
			if done.err != api.OK {
				refused(t, done.name, done.have, done.err, done.want)
				continue
			}
			s = done.have
			if want := p.state(); !alike(s, want) || !state.Same(s, want) || state.Check(s) != api.OK {
				t.Fatalf("%s: %v; should be %v", done.name, s, want)
			}
			if n%10 == 0 {
				holdAsked(t, done.name, s, p)
			}
		}
	}
	for _, name := range []string{"Put 0", "Put 161", "Put 6", "Put 2", "Save 0", "Save 2", "Save 6", "Move 0", "Move 2", "Move 162", "Move 6", "Mint 0", "Mint 2", "Mint 6", "Burn 0", "Burn 2", "Burn 162"} {
		if seen[name] < 20 {
			t.Errorf("%s: just %d times", name, seen[name])
		}
	}
}

// holdAsked holds what may be asked of s against p.
func holdAsked(t *testing.T, name string, s api.State, p plain) {
	t.Helper()
	if total := state.Total(s); number(total).Cmp(p.total()) != 0 {
		t.Fatalf("%s: %v; should be %v", name, total, p.total())
	}
	for a := range api.Addr(50) {
		if have := state.Of(s, a); !alikeAccounts(have, p.account(a)) {
			t.Fatalf("%s: Of(%d): %v; should be %v", name, a, have, p.account(a))
		}
		if have := state.Room(s, a); have != p.room(a) {
			t.Fatalf("%s: Room(%d): %v", name, a, have)
		}
	}
	for key := range uint64(27) {
		for _, k := range []api.Word{w(key), {0, 0, 0, key}} {
			if have := state.Load(s, 20, k); have != p.of(20).store[k] {
				t.Fatalf("%s: Load(20, %v): %v", name, k, have)
			}
		}
	}
}

// P6.5: states of which all addresses have the same are the same, in whatever order that came.
func TestSameWhateverTheOrder(t *testing.T) {
	few := []api.Account{whole(3), rich(16, w(2)), whole(20), {Addr: 30, Code: []byte{1}}}
	want := of(few...)
	orders := 0
	for n := range 256 {
		order := []int{n % 4, n / 4 % 4, n / 16 % 4, n / 64}
		if len(slices.Compact(slices.Sorted(slices.Values(order)))) < 4 {
			continue
		}
		orders++
		put, grown := of(), of()
		for _, i := range order {
			put, _ = state.Put(put, few[i])
		}
		for _, i := range order {
			grown, _ = state.Put(grown, api.Account{Addr: few[i].Addr, Nonce: few[i].Nonce, Code: few[i].Code})
			for _, p := range slices.Backward(few[i].Store) {
				grown, _ = state.Save(grown, few[i].Addr, p)
			}
			grown, _ = state.Mint(grown, few[i].Addr, few[i].Balance)
		}
		if !state.Same(put, want) || !state.Same(grown, want) || !reflect.DeepEqual(put, grown) {
			t.Errorf("in the order %v: %v, %v; should be %v", order, put, grown, want)
		}
	}
	if orders != 24 {
		t.Errorf("%d orders", orders)
	}
}

// P6.5: a Move leaves the Total; a Mint, a Burn change it by n.
func TestTotals(t *testing.T) {
	for name, s := range states() {
		all := number(state.Total(s))
		for _, n := range []api.Word{{}, w(1), w(7), {0, 1}, half(), lessHalf(), most()} {
			for _, a := range []api.Addr{1, 16, 20, 99, greatest} {
				for _, to := range []api.Addr{1, 16, 20, 98, greatest} {
					if next, err := state.Move(s, a, to, n); err == api.OK && number(state.Total(next)).Cmp(all) != 0 {
						t.Errorf("%s: Move(%d, %d, %v): %v", name, a, to, n, state.Total(next))
					}
				}
				want := new(big.Int).Add(all, number(n))
				if next, err := state.Mint(s, a, n); err == api.OK && number(state.Total(next)).Cmp(want) != 0 {
					t.Errorf("%s: Mint(%d, %v): %v", name, a, n, state.Total(next))
				}
				want.Sub(all, number(n))
				if next, err := state.Burn(s, a, n); err == api.OK && number(state.Total(next)).Cmp(want) != 0 {
					t.Errorf("%s: Burn(%d, %v): %v", name, a, n, state.Total(next))
				}
			}
		}
	}
}

// roomy is s, each list of it with room behind its end, in which something stands.
func roomy(s api.State) api.State {
	l := slices.Clone(append(slices.Clone(s.Accounts), whole(77), whole(78)))
	for i, x := range l {
		l[i].Code = append(slices.Clone(x.Code), 1, 2, 3)[:len(x.Code)]
		l[i].Store = append(slices.Clone(x.Store), keys(50, 3)...)[:len(x.Store)]
	}
	return api.State{Accounts: l[:len(s.Accounts)]}
}

// filled is s with all the room behind the ends of its lists, so that that counts, too.
func filled(s api.State) api.State {
	all := api.State{Accounts: s.Accounts[:cap(s.Accounts)]}
	all = dup(all)
	for i, x := range s.Accounts[:cap(s.Accounts)] {
		all.Accounts[i].Code = slices.Clone(x.Code[:cap(x.Code)])
		all.Accounts[i].Store = slices.Clone(x.Store[:cap(x.Store)])
	}
	return all
}

// spoil clears all of s, the room behind the ends, too.
func spoil(s api.State) {
	for _, x := range s.Accounts {
		clear(x.Code[:cap(x.Code)])
		clear(x.Store[:cap(x.Store)])
	}
	clear(s.Accounts[:cap(s.Accounts)])
}

// changes are calls that answer a state, each of which goes well; they are handed x, too, where an account is asked for.
func changes() map[string]func(s api.State, x api.Account) (api.State, api.Errno) {
	return map[string]func(s api.State, x api.Account) (api.State, api.Errno){
		"Put":           func(s api.State, x api.Account) (api.State, api.Errno) { return state.Put(s, x) },
		"Put, empty":    func(s api.State, _ api.Account) (api.State, api.Errno) { return state.Put(s, api.Account{Addr: 20}) },
		"Put, as it is": func(s api.State, _ api.Account) (api.State, api.Errno) { return state.Put(s, s.Accounts[1]) },
		"Save": func(s api.State, _ api.Account) (api.State, api.Errno) {
			return state.Save(s, 20, api.Pair{Key: w(5), Val: w(9)})
		},
		"Save, in place": func(s api.State, _ api.Account) (api.State, api.Errno) {
			return state.Save(s, 20, api.Pair{Key: w(4), Val: w(9)})
		},
		"Save, 0":          func(s api.State, _ api.Account) (api.State, api.Errno) { return state.Save(s, 20, api.Pair{Key: w(4)}) },
		"Save, 0 of none":  func(s api.State, _ api.Account) (api.State, api.Errno) { return state.Save(s, 20, api.Pair{Key: w(3)}) },
		"Move":             func(s api.State, _ api.Account) (api.State, api.Errno) { return state.Move(s, 20, 21, w(3)) },
		"Move, nothing":    func(s api.State, _ api.Account) (api.State, api.Errno) { return state.Move(s, 20, 21, w(0)) },
		"Move, to itself":  func(s api.State, _ api.Account) (api.State, api.Errno) { return state.Move(s, 20, 20, w(3)) },
		"Mint":             func(s api.State, _ api.Account) (api.State, api.Errno) { return state.Mint(s, 19, w(3)) },
		"Mint, nothing":    func(s api.State, _ api.Account) (api.State, api.Errno) { return state.Mint(s, 20, w(0)) },
		"Burn":             func(s api.State, _ api.Account) (api.State, api.Errno) { return state.Burn(s, 20, w(3)) },
		"Burn, nothing":    func(s api.State, _ api.Account) (api.State, api.Errno) { return state.Burn(s, 20, w(0)) },
		"Burn, all of one": func(s api.State, _ api.Account) (api.State, api.Errno) { return state.Burn(s, 18, w(1)) },
	}
}

// R3: what is handed in stays as it is, the room behind its end, too, and is not kept: neither changes with the other one.
func TestNewMemory(t *testing.T) {
	for name, call := range changes() {
		s := roomy(of(rich(18, w(1)), whole(20), whole(30)))
		x := whole(25)
		was := filled(s)
		have, err := call(s, x)
		want := dup(have)
		if err != api.OK || !alike(filled(s), was) || !alikeAccounts(x, whole(25)) {
			t.Errorf("%s: what was handed in is %v, %v now, %d", name, s, x, err)
		}
		spoil(s)
		spoil(of(x))
		if !alike(have, want) {
			t.Errorf("%s: %v, once what was handed in is cleared; should be %v", name, have, want)
		}
		s = roomy(of(rich(18, w(1)), whole(20), whole(30)))
		have, _ = call(s, whole(25))
		spoil(have)
		if !alike(filled(s), was) {
			t.Errorf("%s: what was handed in is %v, once the answer is cleared", name, s)
		}
	}
}

// R3: no two lists of an answer share memory, though those that were handed in do.
func TestListsApart(t *testing.T) {
	code, store := []byte{1, 2, 3, 4, 5, 6}, keys(1, 6)
	shared := func(a api.Addr) api.Account {
		return api.Account{Addr: a, Balance: w(9), Code: code[:3], Store: store[:4]}
	}
	for name, call := range changes() {
		have, err := call(of(rich(18, w(1)), shared(20), shared(30)), shared(25))
		want := dup(have)
		if err != api.OK || len(have.Accounts) == 0 {
			t.Fatalf("%s: %v, %d", name, have, err)
		}
		for i := range have.Accounts {
			x := have.Accounts[i]
			clear(x.Code[:cap(x.Code)])
			clear(x.Store[:cap(x.Store)])
			clear(want.Accounts[i].Code)
			clear(want.Accounts[i].Store)
			if !alike(have, want) {
				t.Fatalf("%s: %v, once the lists of the account %d are cleared", name, have, i)
			}
		}
	}
	if !slices.Equal(code, []byte{1, 2, 3, 4, 5, 6}) || !slices.Equal(store, keys(1, 6)) {
		t.Errorf("what was handed in is %v, %v now", code, store)
	}
}

// R3: what is asked changes nothing, and what Of answers is new memory.
func TestAskedStays(t *testing.T) {
	s := roomy(of(rich(3, w(1)), whole(20), whole(30)))
	was := filled(s)
	x := state.Of(s, 20)
	spoil(of(x))
	state.Check(s)
	state.CheckAccount(s.Accounts[1])
	state.Same(s, s)
	state.Room(s, 25)
	state.Load(s, 20, w(3))
	state.Total(s)
	if !alike(filled(s), was) {
		t.Errorf("what was handed in is %v now", s)
	}
	x = state.Of(s, 20)
	spoil(s)
	if !alikeAccounts(x, whole(20)) {
		t.Errorf("Of: %v, once what was handed in is cleared", x)
	}
}

// R3: nil and empty lists are one, in what is handed in and in what is answered.
func TestNilAndEmpty(t *testing.T) {
	a, _ := state.Mint(of(api.Account{Addr: 20, Nonce: 1}), 21, w(3))
	b, _ := state.Mint(of(api.Account{Addr: 20, Nonce: 1, Code: []byte{}, Store: []api.Pair{}}), 21, w(3))
	c, _ := state.Mint(api.State{Accounts: []api.Account{}}, 20, w(0))
	if !reflect.DeepEqual(a, b) || !reflect.DeepEqual(c, api.State{}) {
		t.Errorf("%#v, %#v, %#v", a, b, c)
	}
	have := state.Of(of(api.Account{Addr: 20, Nonce: 1, Code: []byte{}, Store: []api.Pair{}}), 20)
	if !reflect.DeepEqual(have, api.Account{Addr: 20, Nonce: 1}) {
		t.Errorf("Of: %#v", have)
	}
}

// R1: states that are anything at all: each call ends, and says ErrState just if they may not be.
func TestAnyStates(t *testing.T) {
	d, fine := &dice{77}, 0
	for range 3000 {
		var s api.State
		for range d.below(4) {
			x := api.Account{Addr: d.addr(), Nonce: uint64(d.below(2)), Code: make([]byte, d.below(3)*100+d.below(2)), Store: keys(uint64(d.below(3)), d.below(30))}
			if d.below(2) == 0 {
				x.Balance = word(d.amount(number(half())))
			}
			s.Accounts = append(s.Accounts, x)
		}
		want := api.OK
		if mayBe(s) {
			fine++
		} else {
			want = api.ErrState
		}
		if err := state.Check(s); err != want {
			t.Fatalf("Check of %v: %d; should be %d", s, err, want)
		}
		for range 5 {
			if done := step(d, s, plain{}); (done.err == api.ErrState) != (want == api.ErrState) {
				t.Fatalf("%s of %v: %d", done.name, s, done.err)
			}
		}
	}
	if fine < 500 || fine > 2500 {
		t.Errorf("%d of them may be", fine)
	}
}

// mayBe tells whether the state may be, plainly: whether it is what a plain one is that has each of its accounts put.
func mayBe(s api.State) bool {
	p := plain{}
	for _, x := range s.Accounts {
		if p.put(x) != api.OK {
			return false
		}
	}
	return alike(p.state(), s)
}
