package state_test

import (
	"bytes"
	"encoding/binary"
	"maps"
	"math"
	"math/big"
	"reflect"
	"slices"
	"testing"

	"sheafer/api"
	"sheafer/state"
)

// greatest is the greatest address.
const greatest api.Addr = math.MaxUint64

// w is the word of a number below 2^64; most and half are 2^256 less 1 and 2^255.
func w(n uint64) api.Word {
	return api.Word{n}
}

func most() api.Word {
	return api.Word{math.MaxUint64, math.MaxUint64, math.MaxUint64, math.MaxUint64}
}

func half() api.Word {
	return api.Word{3: 1 << 63}
}

// lessHalf is 2^255 less 1.
func lessHalf() api.Word {
	return api.Word{math.MaxUint64, math.MaxUint64, math.MaxUint64, math.MaxInt64}
}

// rich is an account that has a Balance alone; of is the state of these accounts.
func rich(a api.Addr, n api.Word) api.Account {
	return api.Account{Addr: a, Balance: n}
}

func of(l ...api.Account) api.State {
	return api.State{Accounts: l}
}

// run is n accounts with a Balance of 1, from the address a on.
func run(a api.Addr, n int) []api.Account {
	var row []api.Account
	for i := range n {
		row = append(row, rich(a+api.Addr(i), w(1)))
	}
	return row
}

// keys is n slots, the first of which has the key from; each holds 7.
func keys(from uint64, n int) []api.Pair {
	var row []api.Pair
	for i := range n {
		row = append(row, api.Pair{Key: w(from + uint64(i)), Val: w(7)})
	}
	return row
}

// whole is an account that has all that one can have.
func whole(a api.Addr) api.Account {
	return api.Account{
		Addr: a, Balance: api.Word{9, 8, 7, 6}, Nonce: 3, Code: []byte{1, 0, 2},
		Store: []api.Pair{{Key: w(0), Val: w(5)}, {Key: w(4), Val: most()}, {Key: api.Word{1, 1}, Val: half()}, {Key: most(), Val: w(1)}},
	}
}

// states are states that may be, by their names.
func states() map[string]api.State {
	full := whole(20)
	full.Code, full.Store = bytes.Repeat([]byte{0xab}, api.MaxCode), keys(0, api.MaxStore)
	return map[string]api.State{
		"no account":                  of(),
		"no account, and empty":       {Accounts: []api.Account{}},
		"one":                         of(rich(20, w(7))),
		"one with all":                of(whole(20)),
		"one with empty lists":        of(api.Account{Addr: 20, Nonce: 1, Code: []byte{}, Store: []api.Pair{}}),
		"some with all":               of(whole(1), whole(15), whole(16), whole(20), whole(greatest)),
		"each with one thing":         of(rich(1, w(1)), api.Account{Addr: 2, Nonce: 1}, api.Account{Addr: 16, Code: []byte{0}}, api.Account{Addr: 17, Store: keys(0, 1)}),
		"the greatest one of all":     of(api.Account{Addr: greatest, Balance: most(), Nonce: math.MaxUint64}),
		"as much as may be had":       of(full),
		"as many as may be":           of(run(16, 24)...),
		"as many, and all kept":       of(slices.Concat(run(1, 15), run(16, 24))...),
		"room for one, no kept":       of(run(16, 23)...),
		"room for one, all kept":      of(slices.Concat(run(1, 15), run(100, 23))...),
		"kept ones alone":             of(run(1, 15)...),
		"2^256 less 1 in two":         of(rich(20, half()), rich(21, lessHalf())),
		"2^256 less 1 in three":       of(rich(3, lessHalf()), rich(20, lessHalf()), rich(21, w(1))),
		"2^256 less 1 beside noughts": of(rich(20, most()), api.Account{Addr: 21, Nonce: 1}),
	}
}

// badAccounts are accounts that may not be, by their names; those of them that have an address have the address 20.
func badAccounts() map[string]api.Account {
	with := func(l ...api.Pair) api.Account { return api.Account{Addr: 20, Balance: w(7), Store: l} }
	return map[string]api.Account{
		"nothing at all":              {},
		"the address 0":               {Balance: w(7), Nonce: 1, Code: []byte{1}, Store: keys(0, 1)},
		"a Code too long by one":      {Addr: 20, Code: make([]byte, api.MaxCode+1)},
		"a Code too long by much":     {Addr: 20, Code: make([]byte, 70000)},
		"a slot too many":             with(keys(0, api.MaxStore+1)...),
		"many slots too many":         with(keys(0, 5000)...),
		"a Val of 0":                  with(api.Pair{Key: w(1)}),
		"a Val of 0 behind others":    with(append(keys(1, 3), api.Pair{Key: w(9)})...),
		"a Val of 0 ahead of others":  with(append([]api.Pair{{}}, keys(1, 3)...)...),
		"a key twice":                 with(append(keys(1, 2), keys(2, 1)...)...),
		"the key 0 twice":             with(append(keys(0, 1), keys(0, 1)...)...),
		"a key twice, other Vals":     with(api.Pair{Key: w(1), Val: w(1)}, api.Pair{Key: w(1), Val: w(2)}),
		"keys that fall":              with(append(keys(2, 1), keys(1, 1)...)...),
		"keys that fall at the end":   with(append(keys(1, 20), keys(5, 1)...)...),
		"keys that fall by the top":   with(api.Pair{Key: api.Word{0, 0, 0, 1}, Val: w(1)}, api.Pair{Key: api.Word{5, 5, 5, 0}, Val: w(1)}),
		"keys that fall by the least": with(api.Pair{Key: api.Word{2, 0, 0, 1}, Val: w(1)}, api.Pair{Key: api.Word{1, 0, 0, 1}, Val: w(1)}),
	}
}

// badStates are states that may not be, by their names.
func badStates() map[string]api.State {
	all := map[string]api.State{
		"an empty account":              of(api.Account{Addr: 20}),
		"an empty one, of empty lists":  of(api.Account{Addr: 20, Code: []byte{}, Store: []api.Pair{}}),
		"an empty one among others":     of(rich(19, w(1)), api.Account{Addr: 20}, rich(21, w(1))),
		"an empty kept one":             of(api.Account{Addr: api.AddrEntry}, rich(21, w(1))),
		"an address twice":              of(rich(20, w(1)), rich(20, w(2))),
		"a kept address twice":          of(rich(2, w(1)), rich(2, w(1))),
		"an address twice, apart":       of(rich(20, w(1)), rich(21, w(1)), rich(20, w(1))),
		"addresses that fall":           of(rich(21, w(1)), rich(20, w(1))),
		"addresses that fall to kept":   of(rich(16, w(1)), rich(15, w(1))),
		"addresses that fall at last":   of(append(run(16, 20), rich(3, w(1)))...),
		"one too many":                  of(run(16, 25)...),
		"one too many beside kept ones": of(slices.Concat(run(1, 15), run(16, 25))...),
		"very many":                     of(run(16, 3000)...),
		"2^256 in two":                  of(rich(20, half()), rich(21, half())),
		"2^256 by one":                  of(rich(20, most()), rich(21, w(1))),
		"2^256 by one, of a kept one":   of(rich(1, w(1)), rich(21, most())),
		"2^256 in the midst":            of(rich(20, w(1)), rich(21, most()), rich(22, w(1))),
		"twice 2^256":                   of(rich(20, half()), rich(21, half()), rich(22, half()), rich(23, half())),
	}
	for name, x := range badAccounts() {
		all["alone: "+name] = of(x)
		all["the last one: "+name] = of(rich(1, w(1)), rich(18, w(1)), x)
		all["not the last one: "+name] = of(x, rich(30, w(1)))
	}
	return all
}

// dup is the state in memory of its own, made without the package's own calls; its lists have no room behind their ends.
func dup(s api.State) api.State {
	var t api.State
	for _, x := range s.Accounts {
		x.Code, x.Store = slices.Clip(bytes.Clone(x.Code)), slices.Clip(slices.Clone(x.Store))
		t.Accounts = append(t.Accounts, x)
	}
	return t
}

// changed is s, of which each of these addresses has just that; made without the package's own calls. A Balance of 0 alone is none.
func changed(s api.State, l ...api.Account) api.State {
	by := map[api.Addr]api.Account{}
	for _, x := range append(slices.Clone(s.Accounts), l...) {
		by[x.Addr] = x
	}
	var t api.State
	for _, a := range slices.Sorted(maps.Keys(by)) {
		if x := by[a]; !alikeAccounts(x, api.Account{Addr: a}) {
			t.Accounts = append(t.Accounts, x)
		}
	}
	return t
}

// alike tells whether both are the same, part by part; written out apart from the package's Same. Nil and empty are one.
func alike(a, b api.State) bool {
	if len(a.Accounts) != len(b.Accounts) {
		return false
	}
	for i := range a.Accounts {
		if !alikeAccounts(a.Accounts[i], b.Accounts[i]) {
			return false
		}
	}
	return true
}

func alikeAccounts(x, y api.Account) bool {
	if x.Addr != y.Addr || x.Balance != y.Balance || x.Nonce != y.Nonce || string(x.Code) != string(y.Code) || len(x.Store) != len(y.Store) {
		return false
	}
	for i := range x.Store {
		if x.Store[i] != y.Store[i] {
			return false
		}
	}
	return true
}

// number is w as math/big has it; word the way back, of 0 to 2^256 less 1.
func number(w api.Word) *big.Int {
	var row []byte
	for _, limb := range []int{3, 2, 1, 0} {
		row = binary.BigEndian.AppendUint64(row, w[limb])
	}
	return new(big.Int).SetBytes(row)
}

func word(n *big.Int) api.Word {
	row := n.FillBytes(make([]byte, 32))
	var w api.Word
	for limb := range w {
		w[3-limb] = binary.BigEndian.Uint64(row[8*limb:])
	}
	return w
}

// holds fails, unless what came is the state want, without an error, and may be.
func holds(t *testing.T, name string, have api.State, err api.Errno, want api.State) {
	t.Helper()
	if err != api.OK || !alike(have, want) {
		t.Errorf("%s: %v, %d; should be %v", name, have, err, want)
	}
	if e := state.Check(have); e != api.OK {
		t.Errorf("%s: what comes may not be: %v, %d", name, have, e)
	}
}

// refused fails, unless what came is that error, and no state.
func refused(t *testing.T, name string, have api.State, err, want api.Errno) {
	t.Helper()
	if err != want || !reflect.DeepEqual(have, api.State{}) {
		t.Errorf("%s: %v, %d; should be the error %d alone", name, have, err, want)
	}
}

// P6.1: Check, of states that may be, and that may not.
func TestCheck(t *testing.T) {
	for name, s := range states() {
		if err := state.Check(s); err != api.OK {
			t.Errorf("%s: %d", name, err)
		}
	}
	for name, s := range badStates() {
		if err := state.Check(s); err != api.ErrState {
			t.Errorf("%s: %d", name, err)
		}
	}
}

// P6.1: as many accounts as there may be hang on those that are not kept alone.
func TestCheckCounts(t *testing.T) {
	for kept := range 16 {
		for free := range 28 {
			s := of(slices.Concat(run(api.Addr(16-kept), kept), run(16, free))...)
			if err, fine := state.Check(s), free <= 24; (err == api.OK) != fine {
				t.Errorf("%d kept and %d others: %d", kept, free, err)
			}
		}
	}
}

// P6.1: CheckAccount. An empty account may be.
func TestCheckAccount(t *testing.T) {
	for name, x := range badAccounts() {
		if err := state.CheckAccount(x); err != api.ErrAccount {
			t.Errorf("%s: %d", name, err)
		}
	}
	for _, x := range []api.Account{
		{Addr: 1}, {Addr: 15}, {Addr: 16}, {Addr: greatest}, {Addr: 20, Code: []byte{}, Store: []api.Pair{}},
		rich(20, most()), {Addr: 20, Nonce: math.MaxUint64}, whole(20),
	} {
		if err := state.CheckAccount(x); err != api.OK {
			t.Errorf("%v: %d", x, err)
		}
	}
	for n := range 2 * api.MaxCode {
		if err := state.CheckAccount(api.Account{Addr: 20, Code: make([]byte, n)}); (err == api.OK) != (n <= 200) {
			t.Errorf("%d bytes: %d", n, err)
		}
	}
	for n := range 2 * api.MaxStore {
		if err := state.CheckAccount(api.Account{Addr: 20, Store: keys(5, n)}); (err == api.OK) != (n <= 24) {
			t.Errorf("%d slots: %d", n, err)
		}
	}
}

// P6.1: each part counts for Same, and nothing else.
func TestSame(t *testing.T) {
	base := of(whole(15), whole(20), whole(30))
	if !state.Same(base, dup(base)) {
		t.Error("a state is not the same as itself")
	}
	for name, change := range map[string]func(x *api.Account){
		"Addr":                  func(x *api.Account) { x.Addr++ },
		"Balance, least limb":   func(x *api.Account) { x.Balance[0]++ },
		"Balance, highest limb": func(x *api.Account) { x.Balance[3]++ },
		"Nonce":                 func(x *api.Account) { x.Nonce++ },
		"a byte of Code":        func(x *api.Account) { x.Code[2]++ },
		"a nought behind Code":  func(x *api.Account) { x.Code = append(x.Code, 0) },
		"a byte less":           func(x *api.Account) { x.Code = x.Code[:2] },
		"no Code":               func(x *api.Account) { x.Code = nil },
		"a Key":                 func(x *api.Account) { x.Store[1].Key[0]++ },
		"a Val":                 func(x *api.Account) { x.Store[3].Val[3]++ },
		"a slot less":           func(x *api.Account) { x.Store = x.Store[:3] },
		"a slot of 0 more":      func(x *api.Account) { x.Store = append(x.Store, api.Pair{}) },
		"slots in other order":  func(x *api.Account) { x.Store[0], x.Store[1] = x.Store[1], x.Store[0] },
		"no Store":              func(x *api.Account) { x.Store = nil },
	} {
		for place := range base.Accounts {
			other := dup(base)
			change(&other.Accounts[place])
			if state.Same(base, other) || state.Same(other, base) {
				t.Errorf("%s of the account %d: no matter", name, place)
			}
		}
	}
	for n := range 3 {
		if less := of(base.Accounts[:n]...); state.Same(base, less) || state.Same(less, base) {
			t.Errorf("the first %d accounts alone: the same", n)
		}
	}
}

// P6.1: Same is of what may not be, too; nil and empty lists are one.
func TestSameOfAny(t *testing.T) {
	all := badStates()
	maps.Copy(all, states())
	for a, s := range all {
		for b, u := range all {
			if have, want := state.Same(s, u), alike(s, u); have != want {
				t.Errorf("%q and %q: %v", a, b, have)
			}
		}
		if !state.Same(s, dup(s)) {
			t.Errorf("%s: not the same as itself", a)
		}
	}
	empty := api.Account{Addr: 20, Code: []byte{}, Store: []api.Pair{}}
	if !state.Same(of(), api.State{Accounts: []api.Account{}}) || !state.Same(of(empty), of(api.Account{Addr: 20})) {
		t.Error("nil and empty are not one")
	}
	if state.Same(of(empty), of()) {
		t.Error("an empty account is as none")
	}
}

// P6.2: Of, of addresses that have an account, and of such that have none.
func TestOf(t *testing.T) {
	for name, s := range states() {
		for _, x := range s.Accounts {
			if have := state.Of(s, x.Addr); !alikeAccounts(have, x) {
				t.Errorf("%s: %v; should be %v", name, have, x)
			}
		}
		for _, a := range []api.Addr{0, 14, 19, 22, 99, 200, greatest - 1} {
			if slices.ContainsFunc(s.Accounts, func(x api.Account) bool { return x.Addr == a }) {
				continue
			}
			if have := state.Of(s, a); !reflect.DeepEqual(have, api.Account{Addr: a}) {
				t.Errorf("%s: Of(%d): %v", name, a, have)
			}
		}
	}
}

// P6.2: Room, of no account, of as many as there may be, and of one less.
func TestRoom(t *testing.T) {
	for name, q := range map[string]struct {
		s        api.State
		yes, not []api.Addr
	}{
		"none":                {of(), []api.Addr{1, 15, 16, 20, greatest}, []api.Addr{0}},
		"one less":            {of(run(16, 23)...), []api.Addr{1, 15, 16, 38, 39, 40, greatest}, []api.Addr{0}},
		"one less, and kept":  {of(slices.Concat(run(1, 15), run(16, 23))...), []api.Addr{1, 15, 16, 38, 39, greatest}, []api.Addr{0}},
		"as many as may be":   {of(run(16, 24)...), []api.Addr{1, 2, 15, 16, 20, 39}, []api.Addr{0, 40, 41, greatest}},
		"as many, and kept":   {of(slices.Concat(run(1, 15), run(100, 24))...), []api.Addr{1, 15, 100, 123}, []api.Addr{0, 16, 99, 124, greatest}},
		"as many, and a kept": {of(slices.Concat(run(7, 1), run(100, 24))...), []api.Addr{1, 6, 7, 15, 100, 123}, []api.Addr{0, 16, 99, 124}},
	} {
		for _, a := range q.yes {
			if !state.Room(q.s, a) {
				t.Errorf("%s: no room for %d", name, a)
			}
		}
		for _, a := range q.not {
			if state.Room(q.s, a) {
				t.Errorf("%s: room for %d", name, a)
			}
		}
	}
}

// P6.2: Load, of slots that hold something, and of such that do not.
func TestLoad(t *testing.T) {
	for name, s := range states() {
		for _, x := range s.Accounts {
			for _, p := range x.Store {
				if have := state.Load(s, x.Addr, p.Key); have != p.Val {
					t.Errorf("%s: %d, %v: %v; should be %v", name, x.Addr, p.Key, have, p.Val)
				}
			}
		}
	}
	s := of(whole(16), whole(20))
	for _, key := range []api.Word{w(1), w(3), w(5), w(100), {0, 1}, {1, 1, 1}, {4, 0, 0, 4}, half(), lessHalf()} {
		if have := state.Load(s, 20, key); have != (api.Word{}) {
			t.Errorf("%v holds %v", key, have)
		}
	}
	for _, a := range []api.Addr{0, 1, 15, 17, 19, 21, greatest} {
		if have := state.Load(s, a, w(4)); have != (api.Word{}) {
			t.Errorf("%d: %v", a, have)
		}
	}
	unlike := of(api.Account{Addr: 20, Store: []api.Pair{{Key: w(5), Val: w(9)}}}, api.Account{Addr: 21, Store: []api.Pair{{Key: w(5), Val: w(8)}}})
	if a, b := state.Load(unlike, 20, w(5)), state.Load(unlike, 21, w(5)); a != w(9) || b != w(8) {
		t.Errorf("the same slot of two: %v, %v", a, b)
	}
}

// P6.2: Total, up to 2^256 less 1.
func TestTotal(t *testing.T) {
	for name, want := range map[string]api.Word{
		"no account": {}, "one": w(7), "one with all": {9, 8, 7, 6}, "some with all": {45, 40, 35, 30},
		"as many as may be": w(24), "as many, and all kept": w(39), "kept ones alone": w(15), "one with empty lists": {},
		"2^256 less 1 in two": most(), "2^256 less 1 in three": most(), "2^256 less 1 beside noughts": most(),
	} {
		s, there := states()[name]
		if have := state.Total(s); !there || have != want {
			t.Errorf("%s: %v; should be %v", name, have, want)
		}
	}
}

// P6.2: of what may not be, each answers as the chapter says, though the address has something there.
func TestAskedOfBadStates(t *testing.T) {
	for name, s := range badStates() {
		addrs := []api.Addr{0, 1, 16, 20, greatest}
		for _, x := range s.Accounts[:min(3, len(s.Accounts))] {
			addrs = append(addrs, x.Addr)
		}
		for _, a := range addrs {
			if have := state.Of(s, a); !reflect.DeepEqual(have, api.Account{Addr: a}) {
				t.Errorf("%s: Of(%d): %v", name, a, have)
			}
			if state.Room(s, a) {
				t.Errorf("%s: room for %d", name, a)
			}
			for key := range uint64(6) {
				if have := state.Load(s, a, w(key)); have != (api.Word{}) {
					t.Errorf("%s: Load(%d, %d): %v", name, a, key, have)
				}
			}
		}
		if have := state.Total(s); have != (api.Word{}) {
			t.Errorf("%s: Total: %v", name, have)
		}
	}
}

// P6.3: Put, at the beginning, in the midst and at the end, in the place of another one, and of an empty one.
func TestPut(t *testing.T) {
	s := of(rich(3, w(1)), rich(20, w(2)), whole(30))
	for name, q := range map[string]struct {
		x    api.Account
		want api.State
	}{
		"ahead of all":          {whole(1), of(whole(1), rich(3, w(1)), rich(20, w(2)), whole(30))},
		"between":               {whole(25), of(rich(3, w(1)), rich(20, w(2)), whole(25), whole(30))},
		"behind all":            {rich(greatest, w(1)), of(rich(3, w(1)), rich(20, w(2)), whole(30), rich(greatest, w(1)))},
		"in the first's place":  {whole(3), of(whole(3), rich(20, w(2)), whole(30))},
		"in the second's place": {whole(20), of(rich(3, w(1)), whole(20), whole(30))},
		"in the last's place":   {rich(30, w(4)), of(rich(3, w(1)), rich(20, w(2)), rich(30, w(4)))},
		"as it is":              {whole(30), s},
		"a Nonce alone":         {api.Account{Addr: 20, Nonce: 1}, of(rich(3, w(1)), api.Account{Addr: 20, Nonce: 1}, whole(30))},
		"a Code alone":          {api.Account{Addr: 21, Code: []byte{0}}, of(rich(3, w(1)), rich(20, w(2)), api.Account{Addr: 21, Code: []byte{0}}, whole(30))},
		"a Store alone":         {api.Account{Addr: 21, Store: keys(0, 1)}, of(rich(3, w(1)), rich(20, w(2)), api.Account{Addr: 21, Store: keys(0, 1)}, whole(30))},
		"an empty one":          {api.Account{Addr: 20}, of(rich(3, w(1)), whole(30))},
		"an empty last one":     {api.Account{Addr: 30, Code: []byte{}, Store: []api.Pair{}}, of(rich(3, w(1)), rich(20, w(2)))},
		"empty, of none":        {api.Account{Addr: 21}, s},
	} {
		have, err := state.Put(s, q.x)
		holds(t, name, have, err, q.want)
		if back := state.Of(have, q.x.Addr); !alikeAccounts(back, q.x) {
			t.Errorf("%s: Of: %v", name, back)
		}
	}
	have, err := state.Put(of(), whole(20))
	holds(t, "the first one", have, err, of(whole(20)))
	have, err = state.Put(of(whole(20)), api.Account{Addr: 20})
	holds(t, "the last one goes", have, err, of())
}

// P6.3: an account that may not be is put nowhere, whatever room there is.
func TestPutOfBadAccounts(t *testing.T) {
	for name, x := range badAccounts() {
		for _, s := range []api.State{of(), of(whole(20)), of(run(100, 24)...), of(rich(30, most()))} {
			have, err := state.Put(s, x)
			refused(t, name, have, err, api.ErrAccount)
		}
	}
}

// P6.3: Put where there is room, and where there is none; of an empty account none is needed.
func TestPutRoom(t *testing.T) {
	full := of(slices.Concat(run(2, 3), run(100, 24))...)
	for _, a := range []api.Addr{16, 99, 124, greatest} {
		for _, x := range []api.Account{whole(a), rich(a, w(1)), {Addr: a, Nonce: 1}, {Addr: a, Code: []byte{0}}, {Addr: a, Store: keys(0, 1)}} {
			have, err := state.Put(full, x)
			refused(t, "no room", have, err, api.ErrFull)
		}
		have, err := state.Put(full, api.Account{Addr: a})
		holds(t, "no room, but empty", have, err, full)
	}
	want := dup(full)
	want.Accounts[10] = whole(107)
	have, err := state.Put(full, whole(107))
	holds(t, "it has an account", have, err, want)
	have, err = state.Put(full, rich(1, w(1)))
	holds(t, "it is kept", have, err, of(slices.Concat(run(1, 4), run(100, 24))...))
	one := of(slices.Concat(run(2, 3), run(100, 23))...)
	have, err = state.Put(one, rich(123, w(1)))
	holds(t, "room for one", have, err, full)
	gone, err := state.Put(full, api.Account{Addr: 100})
	holds(t, "one goes", gone, err, of(slices.Concat(run(2, 3), run(101, 23))...))
	have, err = state.Put(gone, rich(124, w(1)))
	holds(t, "then another one comes", have, err, of(slices.Concat(run(2, 3), run(101, 24))...))
}

// P6.3: all Balances together are below 2^256; what the address had counts for nothing. ErrFull is ahead of that.
func TestPutOfTooMuch(t *testing.T) {
	s := of(rich(20, half()), rich(30, lessHalf()))
	for _, x := range []api.Account{rich(25, w(1)), rich(25, half()), rich(1, most()), rich(30, half()), rich(30, most()), rich(20, api.Word{1, 0, 0, 1 << 63})} {
		have, err := state.Put(s, x)
		refused(t, "too much", have, err, api.ErrArg)
	}
	have, err := state.Put(s, api.Account{Addr: 25, Nonce: 1})
	holds(t, "nothing more", have, err, of(rich(20, half()), api.Account{Addr: 25, Nonce: 1}, rich(30, lessHalf())))
	have, err = state.Put(s, rich(30, w(1)))
	holds(t, "less", have, err, of(rich(20, half()), rich(30, w(1))))
	have, err = state.Put(s, rich(30, lessHalf()))
	holds(t, "as much", have, err, s)
	have, err = state.Put(of(rich(20, most())), rich(20, most()))
	holds(t, "all in one place", have, err, of(rich(20, most())))
	have, err = state.Put(of(rich(20, lessHalf())), rich(21, half()))
	holds(t, "just 2^256 less 1", have, err, of(rich(20, lessHalf()), rich(21, half())))
	full := of(run(16, 24)...)
	full.Accounts[3].Balance = half()
	have, err = state.Put(full, rich(40, half()))
	refused(t, "no room, and too much", have, err, api.ErrFull)
	have, err = state.Put(full, rich(39, half()))
	refused(t, "too much", have, err, api.ErrArg)
	have, err = state.Put(full, rich(1, half()))
	refused(t, "too much of a kept one", have, err, api.ErrArg)
}

// P6.3: Save, ahead of, between and behind slots, in the place of one, and of 0.
func TestSave(t *testing.T) {
	store := []api.Pair{{Key: w(2), Val: w(5)}, {Key: w(4), Val: w(6)}, {Key: api.Word{0, 1}, Val: w(7)}}
	with := func(l ...api.Pair) api.State {
		return of(whole(3), api.Account{Addr: 20, Balance: w(1), Store: l}, whole(30))
	}
	for name, q := range map[string]struct {
		p    api.Pair
		want []api.Pair
	}{
		"ahead of all":         {api.Pair{Key: w(0), Val: w(9)}, []api.Pair{{Key: w(0), Val: w(9)}, store[0], store[1], store[2]}},
		"between":              {api.Pair{Key: w(3), Val: w(9)}, []api.Pair{store[0], {Key: w(3), Val: w(9)}, store[1], store[2]}},
		"between, by a limb":   {api.Pair{Key: w(math.MaxUint64), Val: w(9)}, []api.Pair{store[0], store[1], {Key: w(math.MaxUint64), Val: w(9)}, store[2]}},
		"behind all":           {api.Pair{Key: most(), Val: most()}, []api.Pair{store[0], store[1], store[2], {Key: most(), Val: most()}}},
		"in the first's place": {api.Pair{Key: w(2), Val: half()}, []api.Pair{{Key: w(2), Val: half()}, store[1], store[2]}},
		"in the last's place":  {api.Pair{Key: api.Word{0, 1}, Val: w(1)}, []api.Pair{store[0], store[1], {Key: api.Word{0, 1}, Val: w(1)}}},
		"as it is":             {store[1], store},
		"0 of the first":       {api.Pair{Key: w(2)}, []api.Pair{store[1], store[2]}},
		"0 of the second":      {api.Pair{Key: w(4)}, []api.Pair{store[0], store[2]}},
		"0 of the last":        {api.Pair{Key: api.Word{0, 1}}, []api.Pair{store[0], store[1]}},
		"0 of none":            {api.Pair{Key: w(3)}, store},
		"0 of none, ahead":     {api.Pair{}, store},
	} {
		have, err := state.Save(with(store...), 20, q.p)
		holds(t, name, have, err, with(q.want...))
		if val := state.Load(have, 20, q.p.Key); val != q.p.Val {
			t.Errorf("%s: Load: %v", name, val)
		}
	}
}

// P6.3: accounts come and go with their slots.
func TestSaveComesAndGoes(t *testing.T) {
	have, err := state.Save(of(), 20, api.Pair{Key: w(5), Val: w(9)})
	slot := api.Account{Addr: 20, Store: []api.Pair{{Key: w(5), Val: w(9)}}}
	holds(t, "it comes", have, err, of(slot))
	have, err = state.Save(have, 20, api.Pair{Key: w(5)})
	holds(t, "it goes", have, err, of())
	have, err = state.Save(of(), 20, api.Pair{Key: w(5)})
	holds(t, "it never was", have, err, of())
	for _, rest := range []api.Account{rich(20, w(1)), {Addr: 20, Nonce: 1}, {Addr: 20, Code: []byte{0}}, {Addr: 20, Store: keys(6, 1)}} {
		x := rest
		x.Store = append([]api.Pair{{Key: w(5), Val: w(9)}}, rest.Store...)
		have, err = state.Save(of(x), 20, api.Pair{Key: w(5)})
		holds(t, "something is left", have, err, of(rest))
		have, err = state.Save(of(rest), 20, api.Pair{Key: w(5), Val: w(9)})
		holds(t, "something was there", have, err, of(x))
	}
}

// P6.3: what Save refuses: the address 0; one slot too many; an address for which there is no room.
func TestSaveRefuses(t *testing.T) {
	full := of(slices.Concat(run(2, 3), run(100, 24))...)
	slots := of(api.Account{Addr: 20, Store: keys(10, api.MaxStore)})
	for _, s := range []api.State{of(), full, slots, of(whole(20))} {
		for _, p := range []api.Pair{{}, {Key: w(5)}, {Key: w(5), Val: w(9)}} {
			have, err := state.Save(s, 0, p)
			refused(t, "the address 0", have, err, api.ErrArg)
		}
	}
	for _, key := range []uint64{0, 9, 34, 35} {
		have, err := state.Save(slots, 20, api.Pair{Key: w(key), Val: w(1)})
		refused(t, "one slot too many", have, err, api.ErrFull)
		have, err = state.Save(slots, 20, api.Pair{Key: w(key)})
		holds(t, "0, of one slot too many", have, err, slots)
	}
	for _, a := range []api.Addr{16, 99, 124, greatest} {
		have, err := state.Save(full, a, api.Pair{Key: w(1), Val: w(1)})
		refused(t, "no room", have, err, api.ErrFull)
		have, err = state.Save(full, a, api.Pair{Key: w(1)})
		holds(t, "no room, but 0", have, err, full)
	}
}

// P6.3: MaxStore slots are changed one by one; where one goes, another one comes; there is room for those of accounts that are there, and of kept addresses.
func TestSaveOfFull(t *testing.T) {
	with := func(l []api.Pair) api.State { return of(api.Account{Addr: 20, Store: l}) }
	for n := range api.MaxStore {
		s, want := of(), keys(10, api.MaxStore)
		for i := range want {
			next, err := state.Save(s, 20, want[(i+n)%api.MaxStore])
			if err != api.OK {
				t.Fatalf("the slot %d: %d", i, err)
			}
			s = next
		}
		holds(t, "all of them", s, api.OK, with(want))
		want[n].Val = w(8)
		have, err := state.Save(s, 20, want[n])
		holds(t, "another Val", have, err, with(want))
		have, err = state.Save(s, 20, api.Pair{Key: want[n].Key})
		holds(t, "one less", have, err, with(slices.Delete(slices.Clone(want), n, n+1)))
		have, err = state.Save(have, 20, api.Pair{Key: w(1), Val: w(1)})
		holds(t, "another one", have, err, with(append([]api.Pair{{Key: w(1), Val: w(1)}}, slices.Delete(slices.Clone(want), n, n+1)...)))
	}
	full := of(run(16, 24)...)
	for _, a := range []api.Addr{16, 30, 39} {
		want := dup(full)
		want.Accounts[a-16].Store = keys(3, 1)
		have, err := state.Save(full, a, keys(3, 1)[0])
		holds(t, "it has an account", have, err, want)
	}
	have, err := state.Save(full, 15, keys(3, 1)[0])
	holds(t, "it is kept", have, err, of(append([]api.Account{{Addr: 15, Store: keys(3, 1)}}, run(16, 24)...)...))
	rest := of(rich(20, most()), whole(21))
	rest.Accounts[1].Balance = api.Word{}
	have, err = state.Save(rest, 22, keys(3, 1)[0])
	holds(t, "Balances of 2^256 less 1", have, err, of(rest.Accounts[0], rest.Accounts[1], api.Account{Addr: 22, Store: keys(3, 1)}))
}

// P6.4: Move, of some, of all, of nothing, and to the same address.
func TestMove(t *testing.T) {
	s := of(rich(15, w(3)), whole(16), rich(20, w(7)), rich(30, api.Word{3: 5}))
	after := func(x ...api.Account) api.State { return changed(s, x...) }
	less, more := whole(16), whole(16)
	less.Balance, more.Balance = api.Word{}, api.Word{16, 8, 7, 6}
	for name, q := range map[string]struct {
		from, to api.Addr
		n        api.Word
		want     api.State
	}{
		"some, upward":             {20, 30, w(3), after(rich(20, w(4)), rich(30, api.Word{3, 0, 0, 5}))},
		"some, downward":           {20, 15, w(3), after(rich(20, w(4)), rich(15, w(6)))},
		"some, to who has nothing": {20, 21, w(3), after(rich(20, w(4)), rich(21, w(3)))},
		"some, to a kept one":      {20, 1, w(3), after(rich(20, w(4)), rich(1, w(3)))},
		"from a kept one":          {15, 20, w(3), after(rich(15, w(0)), rich(20, w(10)))},
		"over the limbs":           {30, 20, w(1), after(rich(30, api.Word{math.MaxUint64, math.MaxUint64, math.MaxUint64, 4}), rich(20, w(8)))},
		"all that there is":        {20, 16, w(7), after(rich(20, w(0)), more)},
		"all, but more is left":    {16, 17, api.Word{9, 8, 7, 6}, after(less, rich(17, api.Word{9, 8, 7, 6}))},
		"all, to the greatest":     {30, greatest, api.Word{3: 5}, after(rich(30, w(0)), rich(greatest, api.Word{3: 5}))},
		"nothing":                  {20, 30, w(0), s},
		"nothing, to nobody":       {20, 21, w(0), s},
		"nothing, from nobody":     {21, 20, w(0), s},
		"nothing, of nobodies":     {21, 22, w(0), s},
		"some, to itself":          {20, 20, w(3), s},
		"all, to itself":           {20, 20, w(7), s},
		"nothing, to itself":       {20, 20, w(0), s},
		"nothing, nobody's own":    {21, 21, w(0), s},
		"all that whole has":       {16, 16, api.Word{9, 8, 7, 6}, s},
	} {
		have, err := state.Move(s, q.from, q.to, q.n)
		holds(t, name, have, err, q.want)
	}
	have, err := state.Move(of(rich(20, most())), 20, 21, most())
	holds(t, "2^256 less 1", have, err, of(rich(21, most())))
	have, err = state.Move(of(rich(20, half()), rich(21, lessHalf())), 20, 21, half())
	holds(t, "to 2^256 less 1", have, err, of(rich(21, most())))
	have, err = state.Move(of(rich(20, most())), 20, 20, most())
	holds(t, "2^256 less 1 to itself", have, err, of(rich(20, most())))
}

// P6.4: what Move refuses, and in which order.
func TestMoveRefuses(t *testing.T) {
	full := of(slices.Concat(run(2, 3), run(100, 24))...)
	for name, q := range map[string]struct {
		from, to api.Addr
		n        api.Word
		want     api.Errno
	}{
		"from 0":                           {0, 100, w(1), api.ErrArg},
		"to 0":                             {100, 0, w(1), api.ErrArg},
		"to 0 nothing":                     {100, 0, w(0), api.ErrArg},
		"from 0 nothing":                   {0, 100, w(0), api.ErrArg},
		"from 0 to 0":                      {0, 0, w(0), api.ErrArg},
		"to 0, and too much":               {100, 0, w(2), api.ErrArg},
		"from 0, and too much":             {0, 100, most(), api.ErrArg},
		"from 0, and no room":              {0, 99, w(1), api.ErrArg},
		"too much":                         {100, 101, w(2), api.ErrFunds},
		"too much by a limb":               {100, 101, api.Word{0, 1}, api.ErrFunds},
		"too much by all":                  {100, 101, most(), api.ErrFunds},
		"too much, to itself":              {100, 100, w(2), api.ErrFunds},
		"of nobody":                        {99, 100, w(1), api.ErrFunds},
		"of nobody, to itself":             {99, 99, w(1), api.ErrFunds},
		"too much, and no room":            {100, 99, w(2), api.ErrFunds},
		"of nobody, and no room":           {98, 99, w(1), api.ErrFunds},
		"no room, though the place is let": {100, 99, w(1), api.ErrFull},
		"no room":                          {2, 124, w(1), api.ErrFull},
	} {
		have, err := state.Move(full, q.from, q.to, q.n)
		refused(t, name, have, err, q.want)
	}
	have, err := state.Move(full, 100, 99, w(0))
	holds(t, "no room, but nothing moves", have, err, full)
	have, err = state.Move(full, 98, 99, w(0))
	holds(t, "no room, but nothing moves, of nobody", have, err, full)
	have, err = state.Move(full, 100, 1, w(1))
	holds(t, "to a kept one", have, err, of(slices.Concat(run(1, 4), run(101, 23))...))
	have, err = state.Move(full, 123, 123, w(1))
	holds(t, "to itself", have, err, full)
	rest := of(slices.Concat(run(2, 3), run(100, 23))...)
	have, err = state.Move(rest, 122, 123, w(1))
	holds(t, "room for one", have, err, of(slices.Concat(run(2, 3), run(100, 22), run(123, 1))...))
}

// P6.4: Mint, up to 2^256 less 1, of nothing, and where there is room or none.
func TestMint(t *testing.T) {
	have, err := state.Mint(of(), 20, w(7))
	holds(t, "the first one", have, err, of(rich(20, w(7))))
	have, err = state.Mint(have, 20, api.Word{3: 1})
	holds(t, "more", have, err, of(rich(20, api.Word{7, 0, 0, 1})))
	have, err = state.Mint(have, 1, w(3))
	holds(t, "of a kept one", have, err, of(rich(1, w(3)), rich(20, api.Word{7, 0, 0, 1})))
	x := whole(20)
	x.Balance[0] += 5
	have, err = state.Mint(of(whole(19), whole(20)), 20, w(5))
	holds(t, "of one with all", have, err, of(whole(19), x))
	have, err = state.Mint(of(), 20, most())
	holds(t, "all at once", have, err, of(rich(20, most())))
	have, err = state.Mint(of(rich(20, half())), 21, lessHalf())
	holds(t, "just 2^256 less 1", have, err, of(rich(20, half()), rich(21, lessHalf())))
	full := of(slices.Concat(run(2, 3), run(100, 24))...)
	want := dup(full)
	want.Accounts[4].Balance = w(9)
	have, err = state.Mint(full, 101, w(8))
	holds(t, "it has an account", have, err, want)
	have, err = state.Mint(full, 1, w(1))
	holds(t, "it is kept", have, err, of(slices.Concat(run(1, 4), run(100, 24))...))
	for _, a := range []api.Addr{1, 20, 99, 100, 124} {
		for _, s := range []api.State{of(), full, of(rich(30, most())), of(rich(20, most()))} {
			have, err = state.Mint(s, a, w(0))
			holds(t, "nothing", have, err, s)
		}
	}
}

// P6.4: what Mint refuses, and in which order.
func TestMintRefuses(t *testing.T) {
	full := of(slices.Concat(run(2, 3), run(100, 24))...)
	rest := of(rich(20, half()), rich(30, lessHalf()))
	for name, q := range map[string]struct {
		s    api.State
		a    api.Addr
		n    api.Word
		want api.Errno
	}{
		"the address 0":              {of(), 0, w(1), api.ErrArg},
		"the address 0, nothing":     {of(), 0, w(0), api.ErrArg},
		"the address 0, of full":     {full, 0, w(1), api.ErrArg},
		"too much, of whom has much": {rest, 20, w(1), api.ErrArg},
		"too much, of another one":   {rest, 25, w(1), api.ErrArg},
		"too much, of a kept one":    {rest, 1, most(), api.ErrArg},
		"too much, by far":           {rest, 30, most(), api.ErrArg},
		"too much, and no room":      {full, 99, most(), api.ErrArg},
		"no room":                    {full, 99, w(1), api.ErrFull},
		"no room for much":           {full, greatest, half(), api.ErrFull},
	} {
		have, err := state.Mint(q.s, q.a, q.n)
		refused(t, name, have, err, q.want)
	}
}

// P6.4: Burn, of some, of all, of nothing; and what it refuses.
func TestBurn(t *testing.T) {
	s := of(rich(3, w(1)), whole(16), rich(20, w(7)))
	less := whole(16)
	less.Balance = api.Word{}
	for name, q := range map[string]struct {
		a    api.Addr
		n    api.Word
		want api.State
	}{
		"some":                  {20, w(3), of(rich(3, w(1)), whole(16), rich(20, w(4)))},
		"all":                   {20, w(7), of(rich(3, w(1)), whole(16))},
		"all of a kept one":     {3, w(1), of(whole(16), rich(20, w(7)))},
		"all, but more is left": {16, api.Word{9, 8, 7, 6}, of(rich(3, w(1)), less, rich(20, w(7)))},
		"nothing":               {20, w(0), s},
		"nothing of nobody":     {21, w(0), s},
	} {
		have, err := state.Burn(s, q.a, q.n)
		holds(t, name, have, err, q.want)
	}
	have, err := state.Burn(of(rich(20, most())), 20, most())
	holds(t, "2^256 less 1", have, err, of())
	have, err = state.Burn(of(run(16, 24)...), 99, w(0))
	holds(t, "no room, but nothing", have, err, of(run(16, 24)...))
	for name, q := range map[string]struct {
		a    api.Addr
		n    api.Word
		want api.Errno
	}{
		"the address 0":               {0, w(1), api.ErrArg},
		"the address 0, nothing":      {0, w(0), api.ErrArg},
		"the address 0, and too much": {0, most(), api.ErrArg},
		"too much":                    {20, w(8), api.ErrFunds},
		"too much by a limb":          {20, api.Word{0, 0, 0, 1}, api.ErrFunds},
		"of nobody":                   {21, w(1), api.ErrFunds},
		"more than all, of one":       {16, api.Word{10, 8, 7, 6}, api.ErrFunds},
	} {
		have, err := state.Burn(s, q.a, q.n)
		refused(t, name, have, err, q.want)
	}
}

// R2: a state that may not be goes ahead of all else, whatever else is wrong, or right.
func TestBadStatesAheadOfAll(t *testing.T) {
	accounts := []api.Account{rich(20, w(1)), {Addr: 20}, rich(40, most())}
	for _, x := range badAccounts() {
		accounts = append(accounts, x)
	}
	for name, s := range badStates() {
		for _, x := range accounts {
			have, err := state.Put(s, x)
			refused(t, "Put, "+name, have, err, api.ErrState)
		}
		for _, a := range []api.Addr{0, 1, 20, 21, greatest} {
			for _, n := range []api.Word{{}, w(1), w(1000), most()} {
				have, err := state.Save(s, a, api.Pair{Key: w(3), Val: n})
				refused(t, "Save, "+name, have, err, api.ErrState)
				have, err = state.Mint(s, a, n)
				refused(t, "Mint, "+name, have, err, api.ErrState)
				have, err = state.Burn(s, a, n)
				refused(t, "Burn, "+name, have, err, api.ErrState)
				for _, to := range []api.Addr{0, 20, 22} {
					have, err = state.Move(s, a, to, n)
					refused(t, "Move, "+name, have, err, api.ErrState)
				}
			}
		}
	}
}

// The chapter's examples.
func TestExamples(t *testing.T) {
	s, err := state.Mint(api.State{}, 20, w(7))
	holds(t, "Mint(none, 20, 7)", s, err, of(rich(20, w(7))))
	s, err = state.Move(s, 20, 21, w(3))
	holds(t, "Move(20, 21, 3)", s, err, of(rich(20, w(4)), rich(21, w(3))))
	if a, b, all := state.Of(s, 20).Balance, state.Of(s, 21).Balance, state.Total(s); a != w(4) || b != w(3) || all != w(7) {
		t.Errorf("%v, %v; %v", a, b, all)
	}
	none, err := state.Move(s, 20, 21, w(5))
	refused(t, "Move(20, 21, 5)", none, err, api.ErrFunds)
	none, err = state.Move(s, 20, 0, w(1))
	refused(t, "Move(20, 0, 1)", none, err, api.ErrArg)
	s, err = state.Burn(s, 20, w(4))
	holds(t, "Burn(20, 4)", s, err, of(rich(21, w(3))))
	s, err = state.Save(s, 21, api.Pair{Key: w(5), Val: w(9)})
	if have := state.Load(s, 21, w(5)); err != api.OK || have != w(9) {
		t.Errorf("Load(21, 5): %v, %d", have, err)
	}
	s, err = state.Save(s, 21, api.Pair{Key: w(5)})
	if have := state.Load(s, 21, w(5)); err != api.OK || have != (api.Word{}) {
		t.Errorf("Load(21, 5): %v, %d", have, err)
	}
}
