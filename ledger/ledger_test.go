package ledger_test

import (
	"maps"
	"math"
	"reflect"
	"slices"
	"strconv"
	"testing"

	"sheafer/api"
	"sheafer/ledger"
)

// greatest is the greatest address; greatestFree the greatest Free, and the limits in digits, so that a test does not hang on how they are told.
const (
	greatest     api.Addr = math.MaxUint64
	delayEnd              = 1073741824
	timeEnd               = 1099511627776
	greatestFree          = timeEnd + delayEnd
	maxUint               = math.MaxUint64
)

// w is the word of a number below 2^64; most and half are 2^256 less 1 and 2^255; lessHalf is 2^255 less 1.
func w(n uint64) api.Word {
	return api.Word{n}
}

func most() api.Word {
	return api.Word{maxUint, maxUint, maxUint, maxUint}
}

func half() api.Word {
	return api.Word{3: 1 << 63}
}

func lessHalf() api.Word {
	return api.Word{maxUint, maxUint, maxUint, math.MaxInt64}
}

// put is a row that has a Deposit alone; bound one that has a Stake alone; both one with both.
func put(a api.Addr, n api.Word) api.Held {
	return api.Held{Addr: a, Deposit: n}
}

func bound(a api.Addr, stake api.Word, delay, free uint64) api.Held {
	return api.Held{Addr: a, Stake: stake, Delay: delay, Free: free}
}

func both(a api.Addr, deposit, stake api.Word, delay, free uint64) api.Held {
	return api.Held{Addr: a, Deposit: deposit, Stake: stake, Delay: delay, Free: free}
}

func of(l ...api.Held) api.Ledger {
	return api.Ledger{Rows: l}
}

// run is n rows with a Deposit of 1, from the address a on.
func run(a api.Addr, n int) []api.Held {
	var rows []api.Held
	for i := range n {
		rows = append(rows, put(a+api.Addr(i), w(1)))
	}
	return rows
}

// with is l, of which each of these addresses has just that; none of it, if that holds nothing. It is made without the package's own calls.
func with(l api.Ledger, more ...api.Held) api.Ledger {
	by := map[api.Addr]api.Held{}
	for _, x := range append(slices.Clone(l.Rows), more...) {
		by[x.Addr] = x
	}
	var rows []api.Held
	for _, a := range slices.Sorted(maps.Keys(by)) {
		if by[a] != (api.Held{Addr: a}) {
			rows = append(rows, by[a])
		}
	}
	return of(rows...)
}

// ledgers are ledgers that may be, by their names.
func ledgers() map[string]api.Ledger {
	return map[string]api.Ledger{
		"no row":                   of(),
		"no row, and empty":        {Rows: []api.Held{}},
		"a Deposit":                of(put(20, w(7))),
		"a locked Stake":           of(bound(20, w(5), 100, 0)),
		"a Stake that comes free":  of(bound(20, w(5), 100, 150)),
		"both":                     of(both(20, w(7), w(5), 100, 0)),
		"both, one comes free":     of(both(20, w(7), w(5), 100, 150)),
		"the least of all":         of(bound(1, w(1), 1, 0)),
		"Free ahead of its Delay":  of(bound(20, w(1), 100, 1)),
		"the greatest of all":      of(bound(greatest, most(), delayEnd, greatestFree)),
		"the greatest Deposit":     of(put(greatest, most())),
		"kept ones, and others":    of(put(1, w(1)), bound(2, w(9), 3, 0), put(15, w(1)), put(16, w(1)), both(greatest, w(1), w(2), 3, 4)),
		"as many as may be":        of(run(20, 24)...),
		"as many, and kept":        of(run(1, 24)...),
		"room for one":             of(run(20, 23)...),
		"2^256 less 1 in one":      of(both(20, half(), lessHalf(), 9, 0)),
		"2^256 less 1 in Deposits": of(put(20, half()), put(21, lessHalf())),
		"2^256 less 1 in Stakes":   of(bound(20, half(), 1, 0), bound(21, lessHalf(), 1, 0)),
		"2^256 less 1 in all":      of(both(3, lessHalf(), w(1), 1, 0), bound(greatest, lessHalf(), 2, 3)),
		"2^256 less 2 in all":      of(put(3, lessHalf()), bound(20, lessHalf(), 9, 0)),
	}
}

// badRows are rows that may not be, by their names; those that have an address have the address 20.
func badRows() map[string]api.Held {
	return map[string]api.Held{
		"nothing at all":             {},
		"the address 0":              put(0, w(7)),
		"the address 0 of a Stake":   bound(0, w(7), 9, 0),
		"an address alone":           {Addr: 20},
		"no Stake, a Delay":          both(20, w(7), w(0), 1, 0),
		"no Stake, a Free":           both(20, w(7), w(0), 0, 1),
		"no Stake, a Delay and Free": both(20, w(7), w(0), 9, 10),
		"a Delay alone":              bound(20, w(0), 9, 0),
		"a Free alone":               bound(20, w(0), 0, 9),
		"a Stake, no Delay":          bound(20, w(7), 0, 0),
		"a Stake and Free, no Delay": bound(20, w(7), 0, 9),
		"both, no Delay":             both(20, w(7), w(7), 0, 0),
		"a Delay above its limit":    bound(20, w(7), delayEnd+1, 0),
		"the greatest Delay":         bound(20, w(7), maxUint, 0),
		"a Free above its limit":     bound(20, w(7), delayEnd, greatestFree+1),
		"a Free above, a Delay of 1": both(20, w(7), w(7), 1, greatestFree+1),
		"the greatest Free":          bound(20, w(7), 9, maxUint),
	}
}

// badLedgers are ledgers that may not be, by their names.
func badLedgers() map[string]api.Ledger {
	all := map[string]api.Ledger{
		"a row too many":            of(run(20, 25)...),
		"very many":                 of(run(20, 5000)...),
		"an address twice":          of(put(20, w(1)), put(20, w(2))),
		"a row twice":               of(put(20, w(1)), put(20, w(1))),
		"an address twice, by both": of(put(20, w(1)), bound(20, w(1), 1, 0)),
		"an address twice, apart":   of(put(20, w(1)), put(21, w(1)), put(20, w(1))),
		"addresses that fall":       of(put(21, w(1)), put(20, w(1))),
		"that fall at last":         of(append(run(20, 20), put(3, w(1)))...),
		"2^256 in one":              of(both(20, half(), half(), 9, 0)),
		"2^256 by one":              of(both(20, most(), w(1), 9, 0)),
		"2^256 in Deposits":         of(put(20, half()), put(21, half())),
		"2^256 in Stakes":           of(bound(20, most(), 1, 0), bound(21, w(1), 1, 2)),
		"2^256 in the midst":        of(put(20, w(1)), bound(21, most(), 1, 0), put(22, w(1))),
		"twice 2^256":               of(both(20, half(), half(), 1, 0), both(21, half(), half(), 1, 0)),
		"nearly twice 2^256":        of(put(20, most()), put(21, most())),
	}
	for name, x := range badRows() {
		all["alone: "+name] = of(x)
		all["the last one: "+name] = of(put(1, w(1)), bound(18, w(1), 1, 0), x)
		all["not the last one: "+name] = of(x, put(30, w(1)))
	}
	return all
}

// holds fails, unless what came is the ledger want, without an error, and may be.
func holds(t *testing.T, name string, have api.Ledger, err api.Errno, want api.Ledger) {
	t.Helper()
	if err != api.OK || !slices.Equal(have.Rows, want.Rows) {
		t.Errorf("%s: %v, %d; should be %v", name, have, err, want)
	}
	if e := ledger.Check(have); e != api.OK {
		t.Errorf("%s: what comes may not be: %v, %d", name, have, e)
	}
}

// refused fails, unless what came is that error, and no ledger.
func refused(t *testing.T, name string, have api.Ledger, err, want api.Errno) {
	t.Helper()
	if err != want || !reflect.DeepEqual(have, api.Ledger{}) {
		t.Errorf("%s: %v, %d; should be the error %d alone", name, have, err, want)
	}
}

// comes fails, unless what came is the error want alone, or, if that is OK, the ledger.
func comes(t *testing.T, name string, have api.Ledger, err, want api.Errno, next api.Ledger) {
	t.Helper()
	if want != api.OK {
		refused(t, name, have, err, want)
		return
	}
	holds(t, name, have, err, next)
}

// P7.1: Check, of ledgers that may be, and that may not.
func TestCheck(t *testing.T) {
	for name, l := range ledgers() {
		if err := ledger.Check(l); err != api.OK {
			t.Errorf("%s: %d", name, err)
		}
	}
	for name, l := range badLedgers() {
		if err := ledger.Check(l); err != api.ErrLedger {
			t.Errorf("%s: %d", name, err)
		}
	}
	for n := range 60 {
		if err := ledger.Check(of(run(1, n)...)); (err == api.OK) != (n <= 24) {
			t.Errorf("%d rows: %d", n, err)
		}
	}
}

// P7.1: each field counts for Same, and nothing else.
func TestSame(t *testing.T) {
	base := of(both(15, w(7), w(5), 100, 0), both(20, most(), half(), 1, 7), both(30, w(1), w(2), 3, 4))
	for name, change := range map[string]func(x *api.Held){
		"Addr":                  func(x *api.Held) { x.Addr++ },
		"Deposit, least limb":   func(x *api.Held) { x.Deposit[0]++ },
		"Deposit, highest limb": func(x *api.Held) { x.Deposit[3]++ },
		"Stake, least limb":     func(x *api.Held) { x.Stake[0]++ },
		"Stake, highest limb":   func(x *api.Held) { x.Stake[3]++ },
		"Deposit and Stake":     func(x *api.Held) { x.Deposit, x.Stake = x.Stake, x.Deposit },
		"Delay":                 func(x *api.Held) { x.Delay++ },
		"Free":                  func(x *api.Held) { x.Free++ },
		"all of it":             func(x *api.Held) { *x = api.Held{} },
	} {
		for place := range base.Rows {
			other := of(slices.Clone(base.Rows)...)
			change(&other.Rows[place])
			if ledger.Same(base, other) || ledger.Same(other, base) {
				t.Errorf("%s of the row %d: no matter", name, place)
			}
		}
	}
	for n := range 3 {
		if less := of(base.Rows[:n]...); ledger.Same(base, less) || ledger.Same(less, base) {
			t.Errorf("the first %d rows alone: the same", n)
		}
	}
	swapped := of(base.Rows[1], base.Rows[0], base.Rows[2])
	if ledger.Same(base, swapped) || ledger.Same(of(), of(api.Held{})) {
		t.Error("rows in another order, or one of nothing more: the same")
	}
}

// P7.1: Same is of what may not be, too; nil and empty rows are one.
func TestSameOfAny(t *testing.T) {
	all := badLedgers()
	maps.Copy(all, ledgers())
	for a, l := range all {
		for b, m := range all {
			if have, want := ledger.Same(l, m), slices.Equal(l.Rows, m.Rows); have != want {
				t.Errorf("%q and %q: %v", a, b, have)
			}
		}
	}
}

// P7.1: Find, of addresses that have a row, of such that have none, of 0.
func TestFind(t *testing.T) {
	for name, l := range ledgers() {
		for _, x := range l.Rows {
			if have := ledger.Find(l, x.Addr); have != x {
				t.Errorf("%s: %v; should be %v", name, have, x)
			}
		}
		for _, a := range []api.Addr{0, 14, 18, 25, 45, 200, greatest - 1} {
			if slices.ContainsFunc(l.Rows, func(x api.Held) bool { return x.Addr == a }) {
				continue
			}
			if have := ledger.Find(l, a); have != (api.Held{Addr: a}) {
				t.Errorf("%s: Find(%d): %v", name, a, have)
			}
		}
	}
}

// P7.1, P7.5: of what may not be Find answers nothing, not the address either; Sum 0; Staked false.
func TestAskedOfBad(t *testing.T) {
	for name, l := range badLedgers() {
		for _, a := range []api.Addr{0, 1, 18, 20, 21, 30, greatest} {
			if have := ledger.Find(l, a); have != (api.Held{}) {
				t.Errorf("%s: Find(%d): %v", name, a, have)
			}
			if ledger.Staked(l, a, w(0), 0) || ledger.Staked(l, a, w(1), 1) {
				t.Errorf("%s: %d is staked", name, a)
			}
		}
		if have := ledger.Sum(l); have != w(0) {
			t.Errorf("%s: Sum: %v", name, have)
		}
	}
}

// P7.2: Deposit.
func TestDeposit(t *testing.T) {
	full, mixed := of(run(20, 24)...), of(bound(20, w(5), 100, 150), put(30, w(9)))
	for name, q := range map[string]struct {
		l    api.Ledger
		a    api.Addr
		n    api.Word
		err  api.Errno
		gets api.Held
	}{
		"the first row":               {of(), 20, w(7), api.OK, put(20, w(7))},
		"the first row, all":          {of(), 1, most(), api.OK, put(1, most())},
		"the least":                   {of(), greatest, w(1), api.OK, put(greatest, w(1))},
		"nothing, no row":             {of(), 20, w(0), api.OK, put(20, w(0))},
		"nothing, a row":              {mixed, 30, w(0), api.OK, put(30, w(9))},
		"nothing, a Stake":            {mixed, 20, w(0), api.OK, bound(20, w(5), 100, 150)},
		"more":                        {mixed, 30, w(1), api.OK, put(30, w(10))},
		"more, by a limb":             {of(put(30, w(maxUint))), 30, w(1), api.OK, put(30, api.Word{0, 1})},
		"beside a Stake":              {mixed, 20, w(3), api.OK, both(20, w(3), w(5), 100, 150)},
		"beside a locked one":         {of(bound(20, w(5), 100, 0)), 20, w(3), api.OK, both(20, w(3), w(5), 100, 0)},
		"ahead of all":                {mixed, 19, w(1), api.OK, put(19, w(1))},
		"between":                     {mixed, 25, w(1), api.OK, put(25, w(1))},
		"behind all":                  {mixed, 31, w(1), api.OK, put(31, w(1))},
		"the last row":                {of(run(20, 23)...), 43, w(2), api.OK, put(43, w(2))},
		"the last row, ahead":         {of(run(20, 23)...), 3, w(2), api.OK, put(3, w(2))},
		"as many, of one of them":     {full, 31, w(2), api.OK, put(31, w(3))},
		"as many, of the last one":    {full, 43, w(2), api.OK, put(43, w(3))},
		"as many, nothing":            {full, 44, w(0), api.OK, put(44, w(0))},
		"a row too many":              {full, 44, w(1), api.ErrFull, api.Held{}},
		"a row too many, ahead":       {full, 3, most(), api.ErrOver, api.Held{}},
		"too many, all that fits":     {full, 3, less(24), api.ErrFull, api.Held{}},
		"all that fits":               {mixed, 30, less(14), api.OK, put(30, less(5))},
		"all that fits, of a new one": {mixed, 40, less(14), api.OK, put(40, less(14))},
		"one more":                    {mixed, 30, less(13), api.ErrOver, api.Held{}},
		"one more, of a new one":      {mixed, 40, less(13), api.ErrOver, api.Held{}},
		"one more, of a Stake's":      {mixed, 20, less(13), api.ErrOver, api.Held{}},
		"half to half":                {of(put(20, half())), 21, half(), api.ErrOver, api.Held{}},
		"less to half":                {of(put(20, half())), 21, lessHalf(), api.OK, put(21, lessHalf())},
		"to a Stake of all":           {of(bound(20, most(), 1, 0)), 20, w(1), api.ErrOver, api.Held{}},
		"nothing to all":              {of(put(20, most())), 21, w(0), api.OK, put(21, w(0))},
	} {
		have, err := ledger.Deposit(q.l, q.a, q.n)
		comes(t, name, have, err, q.err, with(q.l, q.gets))
	}
}

// less is 2^256 less 1 and n.
func less(n uint64) api.Word {
	return api.Word{maxUint - n, maxUint, maxUint, maxUint}
}

// P7.2: Withdraw.
func TestWithdraw(t *testing.T) {
	l := of(both(20, w(7), w(5), 100, 0), put(25, api.Word{0, 1}), put(30, w(9)), bound(40, w(9), 1, 2))
	for name, q := range map[string]struct {
		l    api.Ledger
		a    api.Addr
		n    api.Word
		err  api.Errno
		gets api.Held
	}{
		"nothing":                  {l, 30, w(0), api.OK, put(30, w(9))},
		"nothing, no row":          {l, 50, w(0), api.OK, put(50, w(0))},
		"nothing of nothing":       {of(), 50, w(0), api.OK, put(50, w(0))},
		"nothing of a Stake":       {l, 40, w(0), api.OK, bound(40, w(9), 1, 2)},
		"one":                      {l, 30, w(1), api.OK, put(30, w(8))},
		"all but one":              {l, 30, w(8), api.OK, put(30, w(1))},
		"all: the row is gone":     {l, 30, w(9), api.OK, put(30, w(0))},
		"all of one row":           {of(put(20, w(7))), 20, w(7), api.OK, put(20, w(0))},
		"all that there may be":    {of(put(20, most())), 20, most(), api.OK, put(20, w(0))},
		"all, a Stake stays":       {l, 20, w(7), api.OK, bound(20, w(5), 100, 0)},
		"across limbs":             {l, 25, w(1), api.OK, put(25, w(maxUint))},
		"one more":                 {l, 30, w(10), api.ErrFunds, api.Held{}},
		"one more, beside a Stake": {l, 20, w(8), api.ErrFunds, api.Held{}},
		"of a Stake":               {l, 40, w(1), api.ErrFunds, api.Held{}},
		"of a Stake, all of it":    {l, 40, w(9), api.ErrFunds, api.Held{}},
		"of no row":                {l, 50, w(1), api.ErrFunds, api.Held{}},
		"of no rows":               {of(), 50, most(), api.ErrFunds, api.Held{}},
		"more by a limb":           {l, 30, api.Word{0, 0, 0, 1}, api.ErrFunds, api.Held{}},
		"as many as may be":        {of(run(20, 24)...), 31, w(1), api.OK, put(31, w(0))},
		"of nobody, as many":       {of(run(20, 24)...), 50, w(0), api.OK, put(50, w(0))},
	} {
		have, err := ledger.Withdraw(q.l, q.a, q.n)
		comes(t, name, have, err, q.err, with(q.l, q.gets))
	}
}

// P7.3: Bond.
func TestBond(t *testing.T) {
	full := of(run(20, 24)...)
	l := of(both(20, w(7), w(5), 100, 0), bound(25, w(6), 100, 150), put(30, w(9)))
	for name, q := range map[string]struct {
		l     api.Ledger
		a     api.Addr
		n     api.Word
		delay uint64
		err   api.Errno
		gets  api.Held
	}{
		"the first row":                    {of(), 20, w(5), 100, api.OK, bound(20, w(5), 100, 0)},
		"the least Delay":                  {of(), 20, w(1), 1, api.OK, bound(20, w(1), 1, 0)},
		"the greatest Delay":               {of(), 20, most(), delayEnd, api.OK, bound(20, most(), delayEnd, 0)},
		"beside a Deposit":                 {l, 30, w(5), 100, api.OK, both(30, w(9), w(5), 100, 0)},
		"more":                             {l, 20, w(2), 100, api.OK, both(20, w(7), w(7), 100, 0)},
		"more, and longer":                 {l, 20, w(2), 101, api.OK, both(20, w(7), w(7), 101, 0)},
		"nothing more":                     {l, 20, w(0), 100, api.OK, both(20, w(7), w(5), 100, 0)},
		"longer alone":                     {l, 20, w(0), delayEnd, api.OK, both(20, w(7), w(5), delayEnd, 0)},
		"locked again":                     {l, 25, w(1), 100, api.OK, bound(25, w(7), 100, 0)},
		"locked again by nothing":          {l, 25, w(0), 100, api.OK, bound(25, w(6), 100, 0)},
		"locked again, and longer":         {l, 25, w(0), 150, api.OK, bound(25, w(6), 150, 0)},
		"of a new one":                     {l, 19, w(1), 9, api.OK, bound(19, w(1), 9, 0)},
		"the last row":                     {of(run(20, 23)...), 50, w(1), 9, api.OK, bound(50, w(1), 9, 0)},
		"as many, of a Deposit's":          {full, 20, w(1), 9, api.OK, both(20, w(1), w(1), 9, 0)},
		"a Delay of 0":                     {of(), 20, w(5), 0, api.ErrArg, api.Held{}},
		"a Delay of 0, of a Stake":         {l, 20, w(5), 0, api.ErrArg, api.Held{}},
		"a Delay of 0, of nothing":         {of(), 20, w(0), 0, api.ErrArg, api.Held{}},
		"a Delay above its limit":          {of(), 20, w(5), delayEnd + 1, api.ErrArg, api.Held{}},
		"above it, of a Stake":             {l, 20, w(5), delayEnd + 1, api.ErrArg, api.Held{}},
		"the greatest number":              {l, 25, w(0), maxUint, api.ErrArg, api.Held{}},
		"below its Delay":                  {l, 20, w(5), 99, api.ErrArg, api.Held{}},
		"below it, nothing more":           {l, 20, w(0), 1, api.ErrArg, api.Held{}},
		"below it, of one that comes free": {l, 25, w(5), 99, api.ErrArg, api.Held{}},
		"nothing, of nothing":              {of(), 20, w(0), 100, api.ErrStake, api.Held{}},
		"nothing, of a new one":            {l, 50, w(0), 100, api.ErrStake, api.Held{}},
		"nothing, of a Deposit":            {l, 30, w(0), 100, api.ErrStake, api.Held{}},
		"nothing, as many":                 {full, 50, w(0), 100, api.ErrStake, api.Held{}},
		"a row too many":                   {full, 50, w(1), 9, api.ErrFull, api.Held{}},
		"too many, all that fits":          {full, 50, less(24), 9, api.ErrFull, api.Held{}},
		"too many, and too much":           {full, 50, less(23), 9, api.ErrOver, api.Held{}},
		"too many, the Delay 0":            {full, 50, most(), 0, api.ErrArg, api.Held{}},
		"all that fits":                    {l, 20, less(27), 100, api.OK, both(20, w(7), less(22), 100, 0)},
		"all that fits, of a new one":      {l, 50, less(27), 100, api.OK, bound(50, less(27), 100, 0)},
		"one more":                         {l, 20, less(26), 100, api.ErrOver, api.Held{}},
		"one more, of a new one":           {l, 50, less(26), 100, api.ErrOver, api.Held{}},
		"one more, below its Delay":        {l, 20, less(26), 99, api.ErrArg, api.Held{}},
		"nothing to all":                   {of(both(20, half(), lessHalf(), 9, 12)), 20, w(0), 9, api.OK, both(20, half(), lessHalf(), 9, 0)},
	} {
		have, err := ledger.Bond(q.l, q.a, q.n, q.delay)
		comes(t, name, have, err, q.err, with(q.l, q.gets))
	}
}

// P7.4: Unlock.
func TestUnlock(t *testing.T) {
	l := of(both(20, w(7), w(5), 100, 0), bound(21, w(1), 1, 0), bound(22, w(1), delayEnd, 0), both(25, w(7), w(6), 100, 150), put(30, w(9)))
	for name, q := range map[string]struct {
		a    api.Addr
		now  uint64
		err  api.Errno
		gets api.Held
	}{
		"beside a Deposit":          {20, 50, api.OK, both(20, w(7), w(5), 100, 150)},
		"at the beginning":          {20, 0, api.OK, both(20, w(7), w(5), 100, 100)},
		"the least Delay":           {21, 0, api.OK, bound(21, w(1), 1, 1)},
		"the least at the end":      {21, timeEnd, api.OK, bound(21, w(1), 1, timeEnd+1)},
		"the greatest at first":     {22, 0, api.OK, bound(22, w(1), delayEnd, delayEnd)},
		"the greatest at the end":   {22, timeEnd, api.OK, bound(22, w(1), delayEnd, greatestFree)},
		"one ahead of the end":      {22, timeEnd - 1, api.OK, bound(22, w(1), delayEnd, greatestFree-1)},
		"behind the end":            {20, timeEnd + 1, api.ErrArg, api.Held{}},
		"the greatest number":       {20, maxUint, api.ErrArg, api.Held{}},
		"comes free already":        {25, 50, api.ErrStake, api.Held{}},
		"came free":                 {25, 1000, api.ErrStake, api.Held{}},
		"no Stake":                  {30, 50, api.ErrStake, api.Held{}},
		"no row":                    {40, 50, api.ErrStake, api.Held{}},
		"no row, behind the end":    {40, timeEnd + 1, api.ErrArg, api.Held{}},
		"comes free, behind it all": {25, timeEnd + 1, api.ErrArg, api.Held{}},
	} {
		have, err := ledger.Unlock(l, q.a, q.now)
		comes(t, name, have, err, q.err, with(l, q.gets))
	}
}

// P7.4: Release.
func TestRelease(t *testing.T) {
	l := of(both(20, w(7), w(5), 100, 0), both(25, w(7), w(6), 100, 150), bound(26, half(), 100, 150), put(30, w(9)),
		bound(40, w(1), 1, 1), bound(41, w(2), delayEnd, timeEnd), bound(42, w(2), delayEnd, timeEnd+1), bound(43, w(2), delayEnd, greatestFree))
	for name, q := range map[string]struct {
		a     api.Addr
		now   uint64
		err   api.Errno
		stake api.Word
		gets  api.Held
	}{
		"at Free, a Deposit stays":  {25, 150, api.OK, w(6), put(25, w(7))},
		"behind it":                 {25, 151, api.OK, w(6), put(25, w(7))},
		"at the end":                {25, timeEnd, api.OK, w(6), put(25, w(7))},
		"one ahead of Free":         {25, 149, api.ErrLocked, w(0), api.Held{}},
		"at the beginning":          {25, 0, api.ErrLocked, w(0), api.Held{}},
		"at Free: the row is gone":  {26, 150, api.OK, half(), put(26, w(0))},
		"one ahead, no Deposit":     {26, 149, api.ErrLocked, w(0), api.Held{}},
		"the least Free":            {40, 1, api.OK, w(1), put(40, w(0))},
		"one ahead of the least":    {40, 0, api.ErrLocked, w(0), api.Held{}},
		"Free at the end":           {41, timeEnd, api.OK, w(2), put(41, w(0))},
		"Free at the end, ahead":    {41, timeEnd - 1, api.ErrLocked, w(0), api.Held{}},
		"Free behind the end":       {42, timeEnd, api.ErrLocked, w(0), api.Held{}},
		"no time at which it is":    {42, timeEnd + 1, api.ErrArg, w(0), api.Held{}},
		"the greatest Free":         {43, timeEnd, api.ErrLocked, w(0), api.Held{}},
		"the greatest Free, at it":  {43, greatestFree, api.ErrArg, w(0), api.Held{}},
		"locked":                    {20, 50, api.ErrLocked, w(0), api.Held{}},
		"locked, at the beginning":  {20, 0, api.ErrLocked, w(0), api.Held{}},
		"locked, at the end":        {20, timeEnd, api.ErrLocked, w(0), api.Held{}},
		"locked, behind the end":    {20, timeEnd + 1, api.ErrArg, w(0), api.Held{}},
		"no Stake":                  {30, 50, api.ErrStake, w(0), api.Held{}},
		"no Stake, at the end":      {30, timeEnd, api.ErrStake, w(0), api.Held{}},
		"no row":                    {50, 50, api.ErrStake, w(0), api.Held{}},
		"no row, behind the end":    {50, timeEnd + 1, api.ErrArg, w(0), api.Held{}},
		"no Stake, greatest number": {30, maxUint, api.ErrArg, w(0), api.Held{}},
	} {
		have, stake, err := ledger.Release(l, q.a, q.now)
		comes(t, name, have, err, q.err, with(l, q.gets))
		if stake != q.stake {
			t.Errorf("%s: the stake %v; should be %v", name, stake, q.stake)
		}
	}
	have, stake, err := ledger.Release(of(bound(20, most(), 9, 9)), 20, 9)
	holds(t, "the one row", have, err, of())
	if stake != most() {
		t.Errorf("the one row: %v", stake)
	}
}

// P7.5: Sum.
func TestSum(t *testing.T) {
	for name, want := range map[string]api.Word{
		"no row": w(0), "no row, and empty": w(0), "a Deposit": w(7), "a locked Stake": w(5), "a Stake that comes free": w(5),
		"both": w(12), "both, one comes free": w(12), "the greatest of all": most(), "the greatest Deposit": most(),
		"kept ones, and others": w(15), "as many as may be": w(24), "room for one": w(23), "2^256 less 1 in one": most(),
		"2^256 less 1 in Deposits": most(), "2^256 less 1 in Stakes": most(), "2^256 less 1 in all": most(), "2^256 less 2 in all": less(1),
	} {
		l, there := ledgers()[name]
		if have := ledger.Sum(l); have != want || !there {
			t.Errorf("%s: %v; should be %v", name, have, want)
		}
	}
}

// P7.5: Staked.
func TestStaked(t *testing.T) {
	l := of(both(20, w(70), w(5), 100, 0), both(25, w(7), w(6), 100, 150), put(30, w(9)), bound(40, api.Word{0, 0, 0, 2}, delayEnd, 0))
	for name, q := range map[string]struct {
		a     api.Addr
		least api.Word
		delay uint64
		want  bool
	}{
		"just that":               {20, w(5), 100, true},
		"more than that":          {20, w(4), 99, true},
		"nothing asked":           {20, w(0), 0, true},
		"one less":                {20, w(6), 100, false},
		"the Deposit counts not":  {20, w(75), 100, false},
		"one shorter":             {20, w(5), 101, false},
		"less, and shorter":       {20, w(6), 101, false},
		"comes free":              {25, w(1), 1, false},
		"comes free, nothing":     {25, w(0), 0, false},
		"no Stake":                {30, w(1), 1, false},
		"no Stake, nothing asked": {30, w(0), 0, false},
		"no row, nothing asked":   {50, w(0), 0, false},
		"0, nothing asked":        {0, w(0), 0, false},
		"great ones":              {40, api.Word{0, 0, 0, 2}, delayEnd, true},
		"great, by low limbs":     {40, api.Word{maxUint, maxUint, maxUint, 1}, delayEnd, true},
		"great, less by the low":  {40, api.Word{1, 0, 0, 2}, delayEnd, false},
		"the greatest Delay":      {40, w(1), maxUint, false},
		"one above the limit":     {40, w(1), delayEnd + 1, false},
	} {
		if have := ledger.Staked(l, q.a, q.least, q.delay); have != q.want {
			t.Errorf("%s: %v", name, have)
		}
	}
}

// answers are calls that answer an Errno, of an address, an amount and a time (of Bond it is the delay).
func answers() map[string]func(l api.Ledger, a api.Addr, n api.Word, now uint64) (api.Ledger, api.Errno) {
	return map[string]func(l api.Ledger, a api.Addr, n api.Word, now uint64) (api.Ledger, api.Errno){
		"Deposit": func(l api.Ledger, a api.Addr, n api.Word, _ uint64) (api.Ledger, api.Errno) {
			return ledger.Deposit(l, a, n)
		},
		"Withdraw": func(l api.Ledger, a api.Addr, n api.Word, _ uint64) (api.Ledger, api.Errno) {
			return ledger.Withdraw(l, a, n)
		},
		"Bond": ledger.Bond,
		"Unlock": func(l api.Ledger, a api.Addr, _ api.Word, now uint64) (api.Ledger, api.Errno) {
			return ledger.Unlock(l, a, now)
		},
		"Release": func(l api.Ledger, a api.Addr, _ api.Word, now uint64) (api.Ledger, api.Errno) {
			next, stake, err := ledger.Release(l, a, now)
			if err != api.OK && stake != (api.Word{}) {
				// So that whoever looks for a ledger alone sees a stake, too.
				return of(bound(a, stake, 1, 0)), err
			}
			return next, err
		},
	}
}

// R2: ErrLedger goes ahead of all else, then ErrArg, of the address 0, of a time above MaxTime.
func TestOrderOfErrors(t *testing.T) {
	fine := of(run(20, 24)...)
	for name, call := range answers() {
		for bad, l := range badLedgers() {
			for _, a := range []api.Addr{0, 1, 20, 21, 30, greatest} {
				for _, now := range []uint64{0, 1, timeEnd + 1, maxUint} {
					for _, n := range []api.Word{{}, w(1), most()} {
						have, err := call(l, a, n, now)
						refused(t, name+" of "+bad, have, err, api.ErrLedger)
					}
				}
			}
		}
		for _, now := range []uint64{0, 1, timeEnd, timeEnd + 1, maxUint} {
			for _, n := range []api.Word{{}, w(1), w(2), most()} {
				for _, l := range []api.Ledger{of(), fine} {
					have, err := call(l, 0, n, now)
					refused(t, name+" of the address 0, at "+strconv.FormatUint(now, 10), have, err, api.ErrArg)
				}
			}
		}
	}
}

// The chapter's examples.
func TestExamples(t *testing.T) {
	l, err := ledger.Deposit(of(), 20, w(7))
	holds(t, "Deposit(20, 7)", l, err, of(put(20, w(7))))
	if sum := ledger.Sum(l); sum != w(7) {
		t.Errorf("Sum: %v", sum)
	}
	have, err := ledger.Withdraw(l, 20, w(8))
	refused(t, "Withdraw(20, 8)", have, err, api.ErrFunds)
	l, err = ledger.Withdraw(l, 20, w(7))
	holds(t, "Withdraw(20, 7)", l, err, of())

	l, err = ledger.Bond(l, 20, w(5), 100)
	if holds(t, "Bond(20, 5, 100)", l, err, of(bound(20, w(5), 100, 0))); !ledger.Staked(l, 20, w(5), 100) {
		t.Error("Bond(20, 5, 100): not Staked")
	}
	l, err = ledger.Unlock(l, 20, 50)
	if holds(t, "Unlock(20, 50)", l, err, of(bound(20, w(5), 100, 150))); ledger.Staked(l, 20, w(5), 100) {
		t.Error("Unlock(20, 50): Staked")
	}
	have, _, err = ledger.Release(l, 20, 149)
	refused(t, "Release(20, 149)", have, err, api.ErrLocked)
	l, stake, err := ledger.Release(l, 20, 150)
	if holds(t, "Release(20, 150)", l, err, of()); stake != w(5) {
		t.Errorf("Release(20, 150): %v", stake)
	}

	have, err = ledger.Bond(of(), 20, w(0), 100)
	refused(t, "Bond(20, 0, 100)", have, err, api.ErrStake)
	have, err = ledger.Bond(of(), 20, w(5), 0)
	refused(t, "Bond(20, 5, 0)", have, err, api.ErrArg)
	have, _, err = ledger.Release(of(), 20, 1)
	refused(t, "Release(20, 1)", have, err, api.ErrStake)
}
