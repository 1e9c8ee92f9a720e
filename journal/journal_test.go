package journal_test

import (
	"bytes"
	"maps"
	"math"
	"slices"
	"strconv"
	"testing"

	"sheafer/access"
	"sheafer/api"
	"sheafer/journal"
	"sheafer/ledger"
	"sheafer/nonce"
	"sheafer/state"
)

// greatest is the greatest address; mostMarks is how many marks there may be, as the chapter says; touched how many addresses may be warm, as that of access says.
const (
	greatest  api.Addr = math.MaxUint64
	mostMarks          = 16
	touched            = 400
)

// w is the word of a number below 2^64; most is 2^256 less 1.
func w(n uint64) api.Word {
	return api.Word{n}
}

func most() api.Word {
	return api.Word{math.MaxUint64, math.MaxUint64, math.MaxUint64, math.MaxUint64}
}

// run is n addresses, from a on.
func run(a api.Addr, n int) []api.Addr {
	var l []api.Addr
	for i := range n {
		l = append(l, a+api.Addr(i))
	}
	return l
}

// worldOf, accessOf and pointOf are such as may be, and have a bit of everything; of unlike numbers n they are unlike.
func worldOf(n uint64) api.World {
	return api.World{
		State: api.State{Accounts: []api.Account{
			{Addr: api.AddrEntry, Balance: w(n + 1)},
			{Addr: 20, Balance: w(n + 2), Nonce: n, Code: []byte{byte(n), 2, 3}, Store: []api.Pair{{Key: w(1), Val: w(n + 1)}, {Key: w(n + 2), Val: w(7)}}},
			{Addr: 21, Nonce: 1, Code: []byte{9}, Store: []api.Pair{{Key: w(0), Val: most()}}},
		}},
		Ledger: api.Ledger{Rows: []api.Held{{Addr: 20, Deposit: w(n + 1)}, {Addr: 21, Stake: w(9), Delay: 100, Free: n}}},
		Nonces: []api.Nonce{{Addr: 20, Key: w(1), Next: n + 1}, {Addr: 21, Key: w(n), Next: 1}},
	}
}

func accessOf(n uint64) api.Access {
	return api.Access{
		Addrs:   []api.Addr{1, api.Addr(n + 20)},
		Spots:   []api.Spot{{Addr: 20, Key: w(n)}, {Addr: 21, Key: w(7)}},
		Passing: []api.Passing{{Spot: api.Spot{Addr: 20, Key: w(n)}, Val: w(n + 1)}, {Spot: api.Spot{Addr: 22, Key: w(7)}, Val: most()}},
	}
}

func pointOf(n uint64) api.Point {
	return api.Point{World: worldOf(n), Access: accessOf(n)}
}

// marked is a journal at the point of the number of its marks, whose mark of each number is at the point of that.
func marked(marks int) api.Journal {
	j := api.Journal{Point: pointOf(uint64(marks))}
	for n := range marks {
		j.Marks = append(j.Marks, pointOf(uint64(n)))
	}
	return j
}

// worlds are such as may be, by their names.
func worlds() map[string]api.World {
	var many api.World
	for i := range 24 {
		x := api.Account{Addr: api.Addr(16 + i), Balance: w(uint64(i)), Code: make([]byte, 200)}
		for k := range 24 {
			x.Store = append(x.Store, api.Pair{Key: w(uint64(k)), Val: most()})
		}
		many.State.Accounts = append(many.State.Accounts, x)
		many.Ledger.Rows = append(many.Ledger.Rows, api.Held{Addr: api.Addr(16 + i), Deposit: w(1), Stake: w(2), Delay: 1 << 30, Free: 1<<30 + 1<<40})
	}
	for i := range 48 {
		many.Nonces = append(many.Nonces, api.Nonce{Addr: greatest, Key: api.Word{0, 0, uint64(i)}, Next: math.MaxUint64})
	}
	return map[string]api.World{
		"nothing":            {},
		"nothing, and empty": {State: api.State{Accounts: []api.Account{}}, Ledger: api.Ledger{Rows: []api.Held{}}, Nonces: []api.Nonce{}},
		"an account alone":   {State: worldOf(3).State},
		"a ledger alone":     {Ledger: worldOf(3).Ledger},
		"nonces alone":       {Nonces: worldOf(3).Nonces},
		"of each":            worldOf(3),
		"of each, otherwise": worldOf(4),
		"as much as may be":  many,
		"all the balance":    {State: api.State{Accounts: []api.Account{{Addr: 20, Balance: most()}}}, Ledger: api.Ledger{Rows: []api.Held{{Addr: 20, Deposit: most()}}}},
		"lists that are empty": {State: api.State{Accounts: []api.Account{{Addr: 20, Nonce: 1, Code: []byte{}, Store: []api.Pair{}}}},
			Ledger: api.Ledger{Rows: []api.Held{}}, Nonces: []api.Nonce{}},
	}
}

// badWorlds are such as may not be, by their names: by their State, their Ledger or their Nonces alone.
func badWorlds() map[string]api.World {
	all := map[string]api.World{}
	for name, l := range map[string][]api.Account{
		"an account of 0":          {{Addr: 0, Nonce: 1}},
		"an empty account":         {{Addr: 20}},
		"accounts that fall":       {{Addr: 21, Nonce: 1}, {Addr: 20, Nonce: 1}},
		"an account twice":         {{Addr: 20, Nonce: 1}, {Addr: 20, Nonce: 1}},
		"a program that is long":   {{Addr: 20, Code: make([]byte, 201)}},
		"a slot that holds 0":      {{Addr: 20, Store: []api.Pair{{Key: w(1)}}}},
		"slots that fall":          {{Addr: 20, Store: []api.Pair{{Key: w(2), Val: w(1)}, {Key: w(1), Val: w(1)}}}},
		"balances that do not fit": {{Addr: 20, Balance: most()}, {Addr: 21, Balance: w(1)}},
		"too many accounts":        slices.Repeat([]api.Account{{Addr: 20, Nonce: 1}}, 40),
	} {
		of := worldOf(3)
		of.State.Accounts = l
		all["state: "+name] = of
		all["state alone: "+name] = api.World{State: of.State}
	}
	for name, l := range map[string][]api.Held{
		"a row of 0":             {{Addr: 0, Deposit: w(1)}},
		"a row of nothing":       {{Addr: 20}},
		"rows that fall":         {{Addr: 21, Deposit: w(1)}, {Addr: 20, Deposit: w(1)}},
		"a Delay without Stake":  {{Addr: 20, Deposit: w(1), Delay: 5}},
		"a Stake without Delay":  {{Addr: 20, Stake: w(1)}},
		"more than fits":         {{Addr: 20, Deposit: most()}, {Addr: 21, Deposit: w(1)}},
		"a row twice":            {{Addr: 20, Deposit: w(1)}, {Addr: 20, Deposit: w(1)}},
		"a Free that is too far": {{Addr: 20, Stake: w(1), Delay: 5, Free: 1<<40 + 1<<30 + 1}},
	} {
		of := worldOf(3)
		of.Ledger.Rows = l
		all["ledger: "+name] = of
		all["ledger alone: "+name] = api.World{Ledger: of.Ledger}
	}
	for name, l := range map[string][]api.Nonce{
		"a nonce of 0":        {{Addr: 0, Next: 1}},
		"a Next of 0":         {{Addr: 20}},
		"a key that is none":  {{Addr: 20, Key: most(), Next: 1}},
		"nonces that fall":    {{Addr: 21, Next: 1}, {Addr: 20, Next: 1}},
		"keys that fall":      {{Addr: 20, Key: w(1), Next: 1}, {Addr: 20, Next: 1}},
		"a nonce twice":       {{Addr: 20, Next: 1}, {Addr: 20, Next: 1}},
		"one nonce too many":  slices.Repeat([]api.Nonce{{Addr: 20, Next: 1}}, 49),
		"the last one is bad": {{Addr: 20, Next: 1}, {Addr: 21}},
	} {
		of := worldOf(3)
		of.Nonces = l
		all["nonces: "+name] = of
		all["nonces alone: "+name] = api.World{Nonces: of.Nonces}
	}
	return all
}

// accesses are such as may be, by their names.
func accesses() map[string]api.Access {
	var full api.Access
	for i := range touched {
		s := api.Spot{Addr: 20, Key: w(uint64(i))}
		full.Addrs = append(full.Addrs, api.Addr(i))
		full.Spots = append(full.Spots, s)
		full.Passing = append(full.Passing, api.Passing{Spot: s, Val: w(1)})
	}
	return map[string]api.Access{
		"nothing":               {},
		"nothing, and empty":    {Addrs: []api.Addr{}, Spots: []api.Spot{}, Passing: []api.Passing{}},
		"an address alone":      {Addrs: []api.Addr{20}},
		"spots alone":           {Spots: accessOf(3).Spots},
		"what passes alone":     {Passing: accessOf(3).Passing},
		"of each":               accessOf(3),
		"of each, otherwise":    accessOf(4),
		"as much as may be":     full,
		"the address 0":         {Addrs: []api.Addr{0}},
		"the greatest address":  {Addrs: []api.Addr{greatest}},
		"addresses, otherwise":  {Addrs: accessOf(4).Addrs, Spots: accessOf(3).Spots, Passing: accessOf(3).Passing},
		"spots, otherwise":      {Addrs: accessOf(3).Addrs, Spots: accessOf(4).Spots, Passing: accessOf(3).Passing},
		"what passes otherwise": {Addrs: accessOf(3).Addrs, Spots: accessOf(3).Spots, Passing: accessOf(4).Passing},
	}
}

// badAccesses are such as may not be, by their names.
func badAccesses() map[string]api.Access {
	s, r := api.Spot{Addr: 20, Key: w(7)}, api.Spot{Addr: 20, Key: w(6)}
	all := map[string]api.Access{}
	for name, set := range map[string]func(x *api.Access){
		"addresses that fall":   func(x *api.Access) { x.Addrs = []api.Addr{21, 20} },
		"an address twice":      func(x *api.Access) { x.Addrs = []api.Addr{20, 20} },
		"one address too many":  func(x *api.Access) { x.Addrs = run(1, touched+1) },
		"spots that fall":       func(x *api.Access) { x.Spots = []api.Spot{s, r} },
		"a spot twice":          func(x *api.Access) { x.Spots = []api.Spot{s, s} },
		"spots, too many":       func(x *api.Access) { x.Spots = slices.Repeat([]api.Spot{s}, touched+1) },
		"what passes and falls": func(x *api.Access) { x.Passing = []api.Passing{{Spot: s, Val: w(1)}, {Spot: r, Val: w(1)}} },
		"a Val of 0":            func(x *api.Access) { x.Passing = []api.Passing{{Spot: s}} },
	} {
		x := accessOf(3)
		set(&x)
		all[name] = x
		var bare api.Access
		set(&bare)
		all[name+", alone"] = bare
	}
	return all
}

// badPoints are such as may not be, by their names: of a world that may not be, or of an access that may not be, alone.
func badPoints() map[string]api.Point {
	all := map[string]api.Point{}
	for name, world := range badWorlds() {
		all[name] = api.Point{World: world, Access: accessOf(3)}
	}
	for name, x := range badAccesses() {
		all["access: "+name] = api.Point{World: worldOf(3), Access: x}
	}
	return all
}

// journals are such as may be, by their names.
func journals() map[string]api.Journal {
	all := map[string]api.Journal{"nothing": {}, "nothing, and empty": {Marks: []api.Point{}}, "marks of nothing": {Marks: make([]api.Point, mostMarks)}}
	for name, world := range worlds() {
		all["world: "+name] = api.Journal{Point: api.Point{World: world}}
		all["world of a mark: "+name] = api.Journal{Point: pointOf(3), Marks: []api.Point{{World: world}}}
	}
	for name, x := range accesses() {
		all["access: "+name] = api.Journal{Point: api.Point{Access: x}}
		all["access of a mark: "+name] = api.Journal{Point: pointOf(3), Marks: []api.Point{{Access: x}}}
	}
	for n := range mostMarks + 1 {
		all[strconv.Itoa(n)+" marks"] = marked(n)
	}
	all["marks that are one"] = api.Journal{Point: pointOf(3), Marks: slices.Repeat([]api.Point{pointOf(3)}, mostMarks)}
	return all
}

// badJournals are such as may not be, by their names: at their point, at the first mark, at one in the midst, at the last one; or with too many marks.
func badJournals() map[string]api.Journal {
	all := map[string]api.Journal{
		"one mark too many":    marked(mostMarks + 1),
		"many marks too many":  marked(90),
		"too many of nothing":  {Marks: make([]api.Point, mostMarks+1)},
		"very many of nothing": {Marks: make([]api.Point, 5000)},
	}
	for name, bad := range badPoints() {
		all[name+", without marks"] = api.Journal{Point: bad}
		j := marked(5)
		j.Point = bad
		all[name+", at its point"] = j
		for where, n := range map[string]int{"at its first mark": 0, "at a mark": 2, "at its last mark": 4} {
			j := marked(5)
			j.Marks[n] = bad
			all[name+", "+where] = j
		}
		full := marked(mostMarks)
		full.Marks[mostMarks-1] = bad
		all[name+", at the last of as many"] = full
	}
	return all
}

// equalWorld, equalPoint and equal tell whether both are the same, without the package's own calls, and without those of the layers below.
func equalWorld(a, b api.World) bool {
	return slices.EqualFunc(a.State.Accounts, b.State.Accounts, func(x, y api.Account) bool {
		return x.Addr == y.Addr && x.Balance == y.Balance && x.Nonce == y.Nonce && bytes.Equal(x.Code, y.Code) && slices.Equal(x.Store, y.Store)
	}) && slices.Equal(a.Ledger.Rows, b.Ledger.Rows) && slices.Equal(a.Nonces, b.Nonces)
}

func equalPoint(a, b api.Point) bool {
	return equalWorld(a.World, b.World) && slices.Equal(a.Access.Addrs, b.Access.Addrs) &&
		slices.Equal(a.Access.Spots, b.Access.Spots) && slices.Equal(a.Access.Passing, b.Access.Passing)
}

func equal(a, b api.Journal) bool {
	return equalPoint(a.Point, b.Point) && slices.EqualFunc(a.Marks, b.Marks, equalPoint)
}

// unlike tells where two journals are not the same: they are too long to be told whole.
func unlike(a, b api.Journal) string {
	switch {
	case !equalWorld(a.World, b.World):
		return "another world"
	case !equalPoint(a.Point, b.Point):
		return "another access"
	case len(a.Marks) != len(b.Marks):
		return strconv.Itoa(len(a.Marks)) + " marks, not " + strconv.Itoa(len(b.Marks))
	}
	for n := range a.Marks {
		if !equalPoint(a.Marks[n], b.Marks[n]) {
			return "another mark " + strconv.Itoa(n)
		}
	}
	return "nothing else"
}

// holds fails, unless what came is the journal want, without an error, and it may be.
func holds(t *testing.T, name string, have api.Journal, err api.Errno, want api.Journal) {
	t.Helper()
	if err != api.OK || !equal(have, want) {
		t.Errorf("%s: the error %d, and %s", name, err, unlike(have, want))
	}
	if e := journal.Check(have); e != api.OK {
		t.Errorf("%s: what comes may not be: %d", name, e)
	}
}

// refused fails, unless what came is that error, and nothing else.
func refused(t *testing.T, name string, have api.Journal, err, want api.Errno) {
	t.Helper()
	if err != want || !equal(have, api.Journal{}) {
		t.Errorf("%s: the error %d, and %s; should be the error %d alone", name, err, unlike(have, api.Journal{}), want)
	}
}

// P10.1: CheckWorld, of worlds that may be, and that may not: by each part alone.
func TestCheckWorld(t *testing.T) {
	for name, world := range worlds() {
		if err := journal.CheckWorld(world); err != api.OK {
			t.Errorf("%s: %d", name, err)
		}
	}
	for name, world := range badWorlds() {
		if err := journal.CheckWorld(world); err != api.ErrJournal {
			t.Errorf("%s: %d", name, err)
		}
	}
}

// P10.1: Check, of journals that may be, and that may not: at their point, and at each mark.
func TestCheck(t *testing.T) {
	for name, j := range journals() {
		if err := journal.Check(j); err != api.OK {
			t.Errorf("%s: %d", name, err)
		}
	}
	for name, j := range badJournals() {
		if err := journal.Check(j); err != api.ErrJournal {
			t.Errorf("%s: %d", name, err)
		}
	}
}

// P10.1: as many marks as may be, and one more; and each mark alone that may not be.
func TestCheckHowMany(t *testing.T) {
	for n := range 40 {
		if err := journal.Check(marked(n)); (err == api.OK) != (n <= mostMarks) {
			t.Errorf("%d marks: %d", n, err)
		}
	}
	for n := range mostMarks {
		j := marked(mostMarks)
		j.Marks[n].World.Nonces = []api.Nonce{{Addr: 20}}
		if err := journal.Check(j); err != api.ErrJournal {
			t.Errorf("the mark %d: %d", n, err)
		}
	}
}

// worldChanges are changes of worldOf(3), by their names: of each field one at least.
func worldChanges() map[string]func(x *api.World) {
	return map[string]func(x *api.World){
		"an account's Addr":       func(x *api.World) { x.State.Accounts[2].Addr++ },
		"an account's Balance":    func(x *api.World) { x.State.Accounts[0].Balance[3]++ },
		"an account's Nonce":      func(x *api.World) { x.State.Accounts[1].Nonce++ },
		"a byte of a Code":        func(x *api.World) { x.State.Accounts[1].Code[2]++ },
		"a Code's length":         func(x *api.World) { x.State.Accounts[1].Code = x.State.Accounts[1].Code[:2] },
		"no Code":                 func(x *api.World) { x.State.Accounts[2].Code = nil },
		"a slot's Key":            func(x *api.World) { x.State.Accounts[1].Store[1].Key[0]++ },
		"a slot's Val":            func(x *api.World) { x.State.Accounts[1].Store[0].Val[2]++ },
		"a slot less":             func(x *api.World) { x.State.Accounts[1].Store = x.State.Accounts[1].Store[:1] },
		"an account less":         func(x *api.World) { x.State.Accounts = x.State.Accounts[:2] },
		"no account":              func(x *api.World) { x.State.Accounts = nil },
		"an account more":         func(x *api.World) { x.State.Accounts = append(x.State.Accounts, api.Account{Addr: 30, Nonce: 1}) },
		"a row's Addr":            func(x *api.World) { x.Ledger.Rows[1].Addr++ },
		"a row's Deposit":         func(x *api.World) { x.Ledger.Rows[0].Deposit[0]++ },
		"a row's Stake":           func(x *api.World) { x.Ledger.Rows[1].Stake[0]++ },
		"a row's Delay":           func(x *api.World) { x.Ledger.Rows[1].Delay++ },
		"a row's Free":            func(x *api.World) { x.Ledger.Rows[1].Free = 0 },
		"a row less":              func(x *api.World) { x.Ledger.Rows = x.Ledger.Rows[1:] },
		"no row":                  func(x *api.World) { x.Ledger.Rows = nil },
		"a nonce's Addr":          func(x *api.World) { x.Nonces[1].Addr++ },
		"a nonce's Key":           func(x *api.World) { x.Nonces[1].Key[2]++ },
		"a nonce's Next":          func(x *api.World) { x.Nonces[0].Next++ },
		"a nonce less":            func(x *api.World) { x.Nonces = x.Nonces[:1] },
		"no nonce":                func(x *api.World) { x.Nonces = nil },
		"nothing any more":        func(x *api.World) { *x = api.World{} },
		"a nonce that may not be": func(x *api.World) { x.Nonces[0].Next = 0 },
	}
}

// accessChanges are changes of accessOf(3), by their names.
func accessChanges() map[string]func(x *api.Access) {
	return map[string]func(x *api.Access){
		"a warm address":           func(x *api.Access) { x.Addrs[1]++ },
		"a warm address less":      func(x *api.Access) { x.Addrs = x.Addrs[:1] },
		"no warm address":          func(x *api.Access) { x.Addrs = nil },
		"a warm address more":      func(x *api.Access) { x.Addrs = append(x.Addrs, greatest) },
		"a spot's Addr":            func(x *api.Access) { x.Spots[1].Addr++ },
		"a spot's Key":             func(x *api.Access) { x.Spots[0].Key[3]++ },
		"a spot less":              func(x *api.Access) { x.Spots = x.Spots[1:] },
		"no spot":                  func(x *api.Access) { x.Spots = nil },
		"what passes: Addr":        func(x *api.Access) { x.Passing[1].Addr++ },
		"what passes: Key":         func(x *api.Access) { x.Passing[1].Key[1]++ },
		"what passes: Val":         func(x *api.Access) { x.Passing[0].Val[0]++ },
		"nothing that passes":      func(x *api.Access) { x.Passing = nil },
		"less that passes":         func(x *api.Access) { x.Passing = x.Passing[:1] },
		"no access any more":       func(x *api.Access) { *x = api.Access{} },
		"a Val that may not be":    func(x *api.Access) { x.Passing[0].Val = w(0) },
		"an order that may not be": func(x *api.Access) { slices.Reverse(x.Addrs) },
	}
}

// P10.1: each part of a world, and each field of it, counts for SameWorld.
func TestSameWorld(t *testing.T) {
	for name, change := range worldChanges() {
		other := worldOf(3)
		change(&other)
		if journal.SameWorld(worldOf(3), other) || journal.SameWorld(other, worldOf(3)) {
			t.Errorf("%s: no matter", name)
		}
		again := worldOf(3)
		change(&again)
		if !journal.SameWorld(other, again) {
			t.Errorf("%s: not the same as itself", name)
		}
	}
}

// differ fails, unless the journal behind the change is another one than ahead of it, and the same as itself.
func differ(t *testing.T, name string, change func(j *api.Journal)) {
	t.Helper()
	base, other, again := marked(3), marked(3), marked(3)
	// The point and the marks are all alike, so that just the place of a change tells them apart.
	for _, j := range []*api.Journal{&base, &other, &again} {
		for n := range j.Marks {
			j.Marks[n] = pointOf(3)
		}
	}
	change(&other)
	change(&again)
	if journal.Same(base, other) || journal.Same(other, base) {
		t.Errorf("%s: no matter", name)
	}
	if !journal.Same(other, again) {
		t.Errorf("%s: not the same as itself", name)
	}
}

// P10.1: each part of a journal counts for Same: at its point, and at each mark; and how many marks there are.
func TestSame(t *testing.T) {
	for name, change := range worldChanges() {
		differ(t, name+", at its point", func(j *api.Journal) { change(&j.World) })
		for n := range 3 {
			differ(t, name+", at the mark "+strconv.Itoa(n), func(j *api.Journal) { change(&j.Marks[n].World) })
		}
	}
	for name, change := range accessChanges() {
		differ(t, name+", at its point", func(j *api.Journal) { change(&j.Access) })
		for n := range 3 {
			differ(t, name+", at the mark "+strconv.Itoa(n), func(j *api.Journal) { change(&j.Marks[n].Access) })
		}
	}
	differ(t, "a mark less", func(j *api.Journal) { j.Marks = j.Marks[:2] })
	differ(t, "no mark", func(j *api.Journal) { j.Marks = nil })
	differ(t, "a mark more", func(j *api.Journal) { j.Marks = append(j.Marks, pointOf(3)) })
	differ(t, "a mark of nothing more", func(j *api.Journal) { j.Marks = append(j.Marks, api.Point{}) })
	turned := marked(3)
	slices.Reverse(turned.Marks)
	if journal.Same(marked(3), turned) {
		t.Error("the order of the marks: no matter")
	}
	swapped := marked(3)
	swapped.Point, swapped.Marks[2] = swapped.Marks[2], swapped.Point
	if journal.Same(marked(3), swapped) {
		t.Error("which one is the point: no matter")
	}
}

// P10.1: Same and SameWorld are of what may not be, too; nil and empty lists are one.
func TestSameOfAny(t *testing.T) {
	all := badWorlds()
	maps.Copy(all, worlds())
	for a, x := range all {
		for b, y := range all {
			if have, want := journal.SameWorld(x, y), equalWorld(x, y); have != want {
				t.Errorf("%q and %q: %v", a, b, have)
			}
		}
	}
	bad := badJournals()
	maps.Copy(bad, journals())
	for a, x := range bad {
		if !journal.Same(x, x) {
			t.Errorf("%q: not the same as itself", a)
		}
		for b, y := range map[string]api.Journal{"nothing": {}, "five marks": marked(5), "one too many": marked(mostMarks + 1)} {
			if have, want := journal.Same(x, y), equal(x, y); have != want || journal.Same(y, x) != want {
				t.Errorf("%q and %q: %v", a, b, have)
			}
		}
	}
	if !journal.Same(api.Journal{}, api.Journal{Point: api.Point{World: worlds()["nothing, and empty"], Access: accesses()["nothing, and empty"]}, Marks: []api.Point{}}) {
		t.Error("nil and empty are not one")
	}
	if !journal.SameWorld(api.World{}, worlds()["nothing, and empty"]) {
		t.Error("nil and empty are not one, of worlds")
	}
}

// P10.1: New: at that world, with an access of which just these are warm, without marks.
func TestNew(t *testing.T) {
	twice := append(run(20, touched), run(20, touched)...)
	for name, world := range worlds() {
		for which, q := range map[string]struct{ warm, want []api.Addr }{
			"none":              {nil, nil},
			"none, and empty":   {[]api.Addr{}, nil},
			"one":               {[]api.Addr{1}, []api.Addr{1}},
			"some, falling":     {[]api.Addr{9, 3, 9, 0}, []api.Addr{0, 3, 9}},
			"the greatest":      {[]api.Addr{greatest, 20}, []api.Addr{20, greatest}},
			"as many as may be": {run(20, touched), run(20, touched)},
			"as many, twice":    {twice, run(20, touched)},
		} {
			have, err := journal.New(world, q.warm...)
			holds(t, name+", warm: "+which, have, err, api.Journal{Point: api.Point{World: world, Access: api.Access{Addrs: q.want}}})
		}
		have, err := journal.New(world, run(20, touched+1)...)
		refused(t, name+", warm: too many", have, err, api.ErrFull)
	}
}

// P10.1, R2: New of a world that may not be, whatever is warm.
func TestNewOfBad(t *testing.T) {
	for name, world := range badWorlds() {
		for _, warm := range [][]api.Addr{nil, {1}, run(20, touched), run(20, touched+1), run(0, 5000)} {
			have, err := journal.New(world, warm...)
			refused(t, name, have, err, api.ErrJournal)
		}
	}
}

// P10.2: Mark: one mark more, the last one: the point; and its number; the others, and the point, as they were.
func TestMark(t *testing.T) {
	for name, j := range journals() {
		have, number, err := journal.Mark(j)
		if len(j.Marks) == mostMarks {
			refused(t, name, have, err, api.ErrFull)
			if number != 0 {
				t.Errorf("%s: beside an error the number %d", name, number)
			}
			continue
		}
		want := j
		want.Marks = append(slices.Clone(j.Marks), j.Point)
		holds(t, name, have, err, want)
		if number != len(j.Marks) {
			t.Errorf("%s: the number %d", name, number)
		}
	}
}

// P10.2: marks one behind the other, up to as many as may be, and one more.
func TestMarksInARow(t *testing.T) {
	j, err := journal.New(worldOf(0), 1)
	if err != api.OK {
		t.Fatal(err)
	}
	want := j
	for n := range mostMarks {
		next, number, err := journal.Mark(j)
		want.Marks = append(want.Marks, want.Point)
		holds(t, "Mark", next, err, want)
		if number != n {
			t.Errorf("the mark %d has the number %d", n, number)
		}
		j, err = journal.Lay(next, worldOf(uint64(n+1)))
		want.World = worldOf(uint64(n + 1))
		holds(t, "Lay", j, err, want)
	}
	for range 3 {
		have, number, err := journal.Mark(j)
		refused(t, "Mark of as many", have, err, api.ErrFull)
		if number != 0 {
			t.Errorf("beside an error the number %d", number)
		}
	}
	less, err := journal.Keep(j, mostMarks-1)
	want.Marks = want.Marks[:mostMarks-1]
	holds(t, "Keep of the last one", less, err, want)
	again, number, err := journal.Mark(less)
	want.Marks = append(want.Marks, want.Point)
	holds(t, "Mark where there is room again", again, err, want)
	if number != mostMarks-1 {
		t.Errorf("the number %d", number)
	}
}

// noMarks are numbers of which a journal with so many marks has no mark.
func noMarks(marks int) []int {
	return []int{-1, -2, -marks, -marks - 1, math.MinInt, math.MinInt + 1, marks, marks + 1, mostMarks, mostMarks + 1, 100, math.MaxInt32, math.MaxInt - 1, math.MaxInt}
}

// P10.3: Back and Keep of each mark, of journals with each number of marks.
func TestBackAndKeep(t *testing.T) {
	for marks := range mostMarks + 1 {
		for n := range marks {
			j := marked(marks)
			back, err := journal.Back(j, n)
			holds(t, "Back", back, err, api.Journal{Point: pointOf(uint64(n)), Marks: marked(n).Marks})
			kept, err := journal.Keep(j, n)
			holds(t, "Keep", kept, err, api.Journal{Point: pointOf(uint64(marks)), Marks: marked(n).Marks})
		}
	}
}

// P10.3: Back and Keep take the point whole: the world alone, or the access alone, may be what a mark has otherwise.
func TestBackOfEachPart(t *testing.T) {
	for name, was := range map[string]api.Point{
		"another world":        {World: worldOf(5), Access: accessOf(3)},
		"another access":       {World: worldOf(3), Access: accessOf(5)},
		"both":                 pointOf(5),
		"neither":              pointOf(3),
		"nothing":              {},
		"no world":             {Access: accessOf(3)},
		"no access":            {World: worldOf(3)},
		"much":                 {World: worlds()["as much as may be"], Access: accesses()["as much as may be"]},
		"what is empty":        {World: worlds()["nothing, and empty"], Access: accesses()["nothing, and empty"]},
		"lists that are empty": {World: worlds()["lists that are empty"]},
	} {
		j := api.Journal{Point: pointOf(3), Marks: []api.Point{pointOf(1), was, pointOf(2)}}
		back, err := journal.Back(j, 1)
		holds(t, "Back: "+name, back, err, api.Journal{Point: was, Marks: j.Marks[:1]})
		kept, err := journal.Keep(j, 1)
		holds(t, "Keep: "+name, kept, err, api.Journal{Point: pointOf(3), Marks: j.Marks[:1]})
	}
}

// P10.3: Back and Keep of numbers that no mark has.
func TestNoMark(t *testing.T) {
	for marks := range mostMarks + 1 {
		for _, n := range noMarks(marks) {
			if n >= 0 && n < marks {
				continue
			}
			back, err := journal.Back(marked(marks), n)
			refused(t, "Back", back, err, api.ErrNone)
			kept, err := journal.Keep(marked(marks), n)
			refused(t, "Keep", kept, err, api.ErrNone)
		}
	}
	back, err := journal.Back(api.Journal{}, 0)
	refused(t, "Back of nothing", back, err, api.ErrNone)
	kept, err := journal.Keep(api.Journal{Marks: []api.Point{}}, 0)
	refused(t, "Keep of nothing", kept, err, api.ErrNone)
	behind := api.Journal{Marks: marked(3).Marks[:1]}
	back, err = journal.Back(behind, 1)
	refused(t, "Back of what stands in the room behind the marks", back, err, api.ErrNone)
	kept, err = journal.Keep(behind, 2)
	refused(t, "Keep of what stands in the room behind the marks", kept, err, api.ErrNone)
}

// P10.4: Lay and Touch: the world, the access, in the place of its own; all else, the marks too, as it was.
func TestLayAndTouch(t *testing.T) {
	for name, j := range journals() {
		for which, world := range worlds() {
			have, err := journal.Lay(j, world)
			want := j
			want.World = world
			holds(t, "Lay of "+which+": "+name, have, err, want)
		}
		for which, x := range accesses() {
			have, err := journal.Touch(j, x)
			want := j
			want.Access = x
			holds(t, "Touch of "+which+": "+name, have, err, want)
		}
	}
}

// P10.4, R2: Lay of a world, Touch of an access that may not be.
func TestLayAndTouchOfBad(t *testing.T) {
	for _, j := range []api.Journal{{}, marked(1), marked(5), marked(mostMarks)} {
		for name, world := range badWorlds() {
			have, err := journal.Lay(j, world)
			refused(t, "Lay of "+name, have, err, api.ErrJournal)
		}
		for name, x := range badAccesses() {
			have, err := journal.Touch(j, x)
			refused(t, "Touch of "+name, have, err, api.ErrJournal)
		}
	}
}

// R2: ErrJournal goes ahead of ErrFull and of ErrNone, and is no other layer's error.
func TestAskedOfBad(t *testing.T) {
	for name, j := range badJournals() {
		have, number, err := journal.Mark(j)
		refused(t, "Mark of "+name, have, err, api.ErrJournal)
		if number != 0 {
			t.Errorf("Mark of %s: the number %d", name, number)
		}
		for _, n := range []int{0, 2, 4, 15, 16, 17, -1, math.MinInt, math.MaxInt} {
			back, err := journal.Back(j, n)
			refused(t, "Back of "+name, back, err, api.ErrJournal)
			kept, err := journal.Keep(j, n)
			refused(t, "Keep of "+name, kept, err, api.ErrJournal)
		}
		for _, world := range []api.World{{}, worldOf(3), badWorlds()["nonces: a Next of 0"]} {
			laid, err := journal.Lay(j, world)
			refused(t, "Lay of "+name, laid, err, api.ErrJournal)
		}
		for _, x := range []api.Access{{}, accessOf(3), badAccesses()["a Val of 0"]} {
			touched, err := journal.Touch(j, x)
			refused(t, "Touch of "+name, touched, err, api.ErrJournal)
		}
	}
}

// The chapter's examples.
func TestExamples(t *testing.T) {
	first, then := worldOf(1), worldOf(2)
	at := func(world api.World) api.Point {
		return api.Point{World: world, Access: api.Access{Addrs: []api.Addr{1}}}
	}
	j, err := journal.New(first, 1)
	holds(t, "New", j, err, api.Journal{Point: at(first)})
	one, number, err := journal.Mark(j)
	if holds(t, "Mark", one, err, api.Journal{Point: at(first), Marks: []api.Point{at(first)}}); number != 0 {
		t.Error(number)
	}
	laid, err := journal.Lay(one, then)
	holds(t, "Lay", laid, err, api.Journal{Point: at(then), Marks: []api.Point{at(first)}})
	two, number, err := journal.Mark(laid)
	if holds(t, "Mark, twice", two, err, api.Journal{Point: at(then), Marks: []api.Point{at(first), at(then)}}); number != 1 {
		t.Error(number)
	}
	back, err := journal.Back(two, 0)
	holds(t, "Back", back, err, api.Journal{Point: at(first)})
	kept, err := journal.Keep(two, 1)
	holds(t, "Keep", kept, err, api.Journal{Point: at(then), Marks: []api.Point{at(first)}})
	kept, err = journal.Keep(kept, 0)
	holds(t, "Keep, twice", kept, err, api.Journal{Point: at(then)})
	none, err := journal.Back(kept, 0)
	refused(t, "Back of no mark", none, err, api.ErrNone)

	full := j
	for n := range mostMarks {
		next, number, err := journal.Mark(full)
		if full = next; err != api.OK || number != n {
			t.Error(n, number, err)
		}
	}
	more, number, err := journal.Mark(full)
	if refused(t, "Mark of sixteen", more, err, api.ErrFull); number != 0 {
		t.Error(number)
	}
	kept, err = journal.Keep(full, 16)
	refused(t, "Keep of 16", kept, err, api.ErrNone)
	back, err = journal.Back(full, -1)
	refused(t, "Back of -1", back, err, api.ErrNone)
}

// P10.5: what is done by the layers below, and laid, is taken back, and kept.
func TestOfLayersBelow(t *testing.T) {
	j, err := journal.New(api.World{}, 1)
	if err != api.OK {
		t.Fatal(err)
	}
	start, _, err := journal.Mark(j)
	if err != api.OK {
		t.Fatal(err)
	}
	var errs [6]api.Errno
	world, x := start.World, start.Access
	world.State, errs[0] = state.Mint(world.State, 20, w(7))
	world.Ledger, errs[1] = ledger.Deposit(world.Ledger, 20, w(5))
	world.Nonces, errs[2] = nonce.Use(world.Nonces, 20, w(0))
	x, _, errs[3] = access.Touch(x, 20)
	laid, err := journal.Lay(start, world)
	errs[4] = err
	done, err := journal.Touch(laid, x)
	errs[5] = err
	if errs != [6]api.Errno{} {
		t.Fatal(errs)
	}
	kept, err := journal.Keep(done, 0)
	holds(t, "Keep", kept, err, api.Journal{Point: api.Point{World: world, Access: x}})
	if state.Of(kept.World.State, 20).Balance != w(7) || ledger.Find(kept.World.Ledger, 20).Deposit != w(5) ||
		!slices.Equal(nonce.Of(kept.World.Nonces, 20), []api.Word{w(1)}) || !access.Warm(kept.Access, 20) {
		t.Error("what was kept is told otherwise")
	}
	back, err := journal.Back(done, 0)
	holds(t, "Back", back, err, j)
	if access.Warm(back.Access, 20) || len(back.World.State.Accounts) != 0 {
		t.Error("what was taken back is told yet")
	}
}
