package access_test

import (
	"maps"
	"math"
	"reflect"
	"slices"
	"strconv"
	"testing"

	"sheafer/access"
	"sheafer/api"
)

// greatest is the greatest address; maxUint all bits of a limb; limit is how many there may be of each kind, as the chapter says.
const (
	greatest api.Addr = math.MaxUint64
	maxUint           = math.MaxUint64
	limit             = 400
)

// w is the word of a number below 2^64; most is 2^256 less 1.
func w(n uint64) api.Word {
	return api.Word{n}
}

func most() api.Word {
	return api.Word{maxUint, maxUint, maxUint, maxUint}
}

func at(a api.Addr, key api.Word) api.Spot {
	return api.Spot{Addr: a, Key: key}
}

func holding(s api.Spot, val api.Word) api.Passing {
	return api.Passing{Spot: s, Val: val}
}

// run is n addresses, from a on.
func run(a api.Addr, n int) []api.Addr {
	var l []api.Addr
	for i := range n {
		l = append(l, a+api.Addr(i))
	}
	return l
}

// keys is n spots of the address a, from the key 0 on; across is n spots of the key 5, from the address a on.
func keys(a api.Addr, n int) []api.Spot {
	var l []api.Spot
	for i := range n {
		l = append(l, at(a, w(uint64(i))))
	}
	return l
}

func across(a api.Addr, n int) []api.Spot {
	var l []api.Spot
	for _, x := range run(a, n) {
		l = append(l, at(x, w(5)))
	}
	return l
}

// held is what these spots hold: the first one 1, the next one 2, and so on.
func held(spots []api.Spot) []api.Passing {
	var l []api.Passing
	for i, s := range spots {
		l = append(l, holding(s, w(uint64(i+1))))
	}
	return l
}

// full is an access in which there are as many of each kind as may be; those of the addresses are from 20 on, those of the spots of 20.
func full() api.Access {
	return api.Access{Addrs: run(20, limit), Spots: keys(20, limit), Passing: held(keys(20, limit))}
}

// digits are a spot's numbers, the highest limb of its key first: as lists of numbers they have the order of spots.
func digits(s api.Spot) []uint64 {
	return []uint64{uint64(s.Addr), s.Key[3], s.Key[2], s.Key[1], s.Key[0]}
}

// inOrder puts spots in order, each once, and what they hold, without the package's own calls.
func inOrder(l []api.Spot) []api.Spot {
	rising := slices.Clone(l)
	slices.SortFunc(rising, func(a, b api.Spot) int { return slices.Compare(digits(a), digits(b)) })
	return slices.Compact(rising)
}

// rows are spots that may be, by their names.
func rows() map[string][]api.Spot {
	return map[string][]api.Spot{
		"none":                    nil,
		"none, and empty":         {},
		"one":                     {at(20, w(7))},
		"the least of all":        {at(0, w(0))},
		"the greatest of all":     {at(greatest, most())},
		"both of these":           {at(0, w(0)), at(greatest, most())},
		"the address 0, of a key": {at(0, w(5)), at(0, most())},
		"two of an address":       {at(20, w(7)), at(20, w(8))},
		"a key of several":        {at(20, w(7)), at(21, w(7)), at(22, w(7)), at(greatest, w(7))},
		"keys by their limbs": {at(20, w(maxUint)), at(20, api.Word{0, 1}), at(20, api.Word{1, 1}), at(20, api.Word{0, 0, 1}),
			at(20, api.Word{0, 1, 1}), at(20, api.Word{0, 0, 0, 1}), at(20, most())},
		"lesser keys behind":       {at(20, most()), at(21, w(0)), at(22, w(0))},
		"addresses far apart":      {at(1, w(9)), at(1<<63, w(3)), at(greatest, w(1))},
		"several keys of several":  {at(3, w(5)), at(3, w(9)), at(20, w(0)), at(20, w(5)), at(greatest, w(9))},
		"one less than may be":     keys(20, limit-1),
		"as many as may be":        keys(20, limit),
		"as many, of as many":      across(1, limit),
		"as many, of two":          append(keys(20, limit/2), keys(21, limit/2)...),
		"as many, of the greatest": append(across(1, limit-1), at(greatest, most())),
	}
}

// badRows are spots that are out of order, twice, or too many, by their names.
func badRows() map[string][]api.Spot {
	return map[string][]api.Spot{
		"one too many":              keys(20, limit+1),
		"one too many, of as many":  across(1, limit+1),
		"very many":                 keys(20, 5000),
		"too many, and twice":       append(keys(20, limit), at(20, w(limit-1))),
		"addresses that fall":       {at(21, w(7)), at(20, w(7))},
		"that fall, of rising keys": {at(21, w(0)), at(20, w(1))},
		"that fall, far apart":      {at(greatest, w(0)), at(0, most())},
		"that fall at last":         append(across(20, 300), at(3, w(9))),
		"that come back":            {at(20, w(0)), at(21, w(0)), at(20, w(1))},
		"keys that fall":            {at(20, w(8)), at(20, w(7))},
		"that fall by a limb":       {at(20, api.Word{0, 1}), at(20, w(maxUint))},
		"that fall by two":          {at(20, api.Word{0, 0, 1}), at(20, api.Word{maxUint, maxUint})},
		"that fall by the highest":  {at(20, api.Word{0, 0, 0, 1}), at(20, api.Word{maxUint, maxUint, maxUint})},
		"keys that fall at last":    append(keys(20, 300), at(20, w(3))),
		"that fall, as many":        append(keys(20, limit-1), at(20, w(limit-3))),
		"that fall, but the first":  {at(3, w(9)), at(20, w(1)), at(20, w(0)), at(21, w(0))},
		"twice":                     {at(20, w(7)), at(20, w(7))},
		"twice, behind others":      {at(3, w(5)), at(20, w(0)), at(20, w(5)), at(20, w(5)), at(30, w(0))},
		"twice, apart":              {at(20, w(5)), at(20, w(6)), at(20, w(5))},
		"twice, the least":          {at(0, w(0)), at(0, w(0))},
		"twice, the greatest":       {at(greatest, most()), at(greatest, most())},
		"twice at last":             append(keys(20, limit-1), at(20, w(limit-2))),
	}
}

// badAddrs are addresses that are out of order, twice, or too many, by their names.
func badAddrs() map[string][]api.Addr {
	return map[string][]api.Addr{
		"one too many":         run(1, limit+1),
		"very many":            run(1, 5000),
		"too many, and twice":  append(run(1, limit), limit),
		"that fall":            {21, 20},
		"that fall, far apart": {greatest, 0},
		"that fall by a bit":   {1 << 63, 1<<63 - 1},
		"that fall at last":    append(run(20, 300), 3),
		"that fall at first":   append([]api.Addr{30}, run(20, 5)...),
		"that come back":       {20, 21, 20},
		"that fall, as many":   append(run(20, limit-1), 20+limit-3),
		"twice":                {20, 20},
		"twice, 0":             {0, 0},
		"twice, the greatest":  {3, greatest, greatest},
		"twice at last":        append(run(20, limit-1), 20+limit-2),
	}
}

// badHeld is what is passing of which one Val is 0, by its names.
func badHeld() map[string][]api.Passing {
	last := held(keys(20, limit))
	last[limit-1].Val = w(0)
	return map[string][]api.Passing{
		"a Val of 0":               {holding(at(20, w(7)), w(0))},
		"nothing at all":           {{}},
		"a Val of 0, at first":     {holding(at(20, w(7)), w(0)), holding(at(20, w(8)), w(1))},
		"a Val of 0, at last":      {holding(at(20, w(7)), w(1)), holding(at(20, w(8)), w(0))},
		"a Val of 0, between":      {holding(at(3, w(7)), w(1)), holding(at(20, w(7)), w(0)), holding(at(30, w(7)), w(1))},
		"a Val of 0, as the last":  last,
		"Vals of 0":                {holding(at(3, w(7)), w(0)), holding(at(20, w(7)), w(0))},
		"a Val of 0, twice":        {holding(at(20, w(7)), w(0)), holding(at(20, w(7)), w(0))},
		"twice, with another Val":  {holding(at(20, w(7)), w(1)), holding(at(20, w(7)), w(2))},
		"that falls, of rising":    {holding(at(20, w(8)), w(1)), holding(at(20, w(7)), w(2))},
		"twice, of falling Vals":   {holding(at(20, w(7)), w(2)), holding(at(20, w(7)), w(1))},
		"too many, and a Val of 0": append(held(keys(20, limit)), holding(at(20, w(limit)), w(0))),
	}
}

// accesses are such as may be, by their names.
func accesses() map[string]api.Access {
	all := map[string]api.Access{
		"nothing":                {},
		"nothing, and empty":     {Addrs: []api.Addr{}, Spots: []api.Spot{}, Passing: []api.Passing{}},
		"the address 0":          {Addrs: []api.Addr{0}},
		"one address":            {Addrs: []api.Addr{20}},
		"the greatest address":   {Addrs: []api.Addr{greatest}},
		"addresses far apart":    {Addrs: []api.Addr{0, 1, 15, 16, 1 << 63, greatest}},
		"as many addresses":      {Addrs: run(20, limit)},
		"one address less":       {Addrs: run(20, limit-1)},
		"of each":                {Addrs: []api.Addr{20}, Spots: []api.Spot{at(21, w(7))}, Passing: []api.Passing{holding(at(22, w(7)), w(9))}},
		"as many of each":        full(),
		"Vals that fall":         {Passing: []api.Passing{holding(at(20, w(7)), most()), holding(at(20, w(8)), w(1))}},
		"Vals that are the same": {Passing: []api.Passing{holding(at(20, w(7)), w(1)), holding(at(21, w(7)), w(1))}},
		"a Val of a high limb":   {Passing: []api.Passing{holding(at(20, w(7)), api.Word{3: 1})}},
		"a Val of a bit":         {Passing: []api.Passing{holding(at(20, w(7)), api.Word{0, 1 << 63})}},
	}
	for name, l := range rows() {
		all["spots: "+name] = api.Access{Spots: l}
		all["passing: "+name] = api.Access{Passing: held(l)}
		all["both: "+name] = api.Access{Addrs: []api.Addr{1}, Spots: l, Passing: held(l)}
	}
	return all
}

// badAccesses are such as may not be, by their names: by one kind alone, beside others, and beside as many as may be of the others.
func badAccesses() map[string]api.Access {
	all := map[string]api.Access{}
	put := func(name string, set func(x *api.Access)) {
		for beside, x := range map[string]api.Access{
			"alone": {}, "beside others": {Addrs: []api.Addr{20, 21}, Spots: keys(20, 3), Passing: held(keys(20, 3))}, "beside as many": full(),
		} {
			set(&x)
			all[name+", "+beside] = x
		}
	}
	for name, l := range badAddrs() {
		put("addresses: "+name, func(x *api.Access) { x.Addrs = l })
	}
	for name, l := range badRows() {
		put("spots: "+name, func(x *api.Access) { x.Spots = l })
		put("passing: "+name, func(x *api.Access) { x.Passing = held(l) })
	}
	for name, l := range badHeld() {
		put("passing: "+name, func(x *api.Access) { x.Passing = l })
	}
	return all
}

// equal tells whether both are the same, without the package's own calls.
func equal(a, b api.Access) bool {
	return slices.Equal(a.Addrs, b.Addrs) && slices.Equal(a.Spots, b.Spots) && slices.Equal(a.Passing, b.Passing)
}

// copied is x in memory of its own.
func copied(x api.Access) api.Access {
	return api.Access{Addrs: slices.Clone(x.Addrs), Spots: slices.Clone(x.Spots), Passing: slices.Clone(x.Passing)}
}

// holds fails, unless what came is the access want, without an error, and it may be.
func holds(t *testing.T, name string, have api.Access, err api.Errno, want api.Access) {
	t.Helper()
	if err != api.OK || !equal(have, want) {
		t.Errorf("%s: %v, %d; should be %v", name, have, err, want)
	}
	if e := access.Check(have); e != api.OK {
		t.Errorf("%s: what comes may not be: %v, %d", name, have, e)
	}
}

// touches fails, unless what came is the access want, and cold or not, without an error.
func touches(t *testing.T, name string, have api.Access, cold bool, err api.Errno, want api.Access, wantCold bool) {
	t.Helper()
	holds(t, name, have, err, want)
	if cold != wantCold {
		t.Errorf("%s: it was cold: %v", name, cold)
	}
}

// refused fails, unless what came is that error, and nothing else.
func refused(t *testing.T, name string, have api.Access, cold bool, err, want api.Errno) {
	t.Helper()
	if err != want || cold || !equal(have, api.Access{}) {
		t.Errorf("%s: %v, %v, %d; should be the error %d alone", name, have, cold, err, want)
	}
}

// P9.1: Check, of accesses that may be, and that may not.
func TestCheck(t *testing.T) {
	for name, x := range accesses() {
		if err := access.Check(x); err != api.OK {
			t.Errorf("%s: %d", name, err)
		}
	}
	for name, x := range badAccesses() {
		if err := access.Check(x); err != api.ErrAccess {
			t.Errorf("%s: %d", name, err)
		}
	}
}

// P9.1: as many of each kind as may be, and one more: each kind is told for itself.
func TestCheckHowMany(t *testing.T) {
	for n := range 420 {
		for name, x := range map[string]api.Access{
			"addresses":       {Addrs: run(1, n)},
			"spots of one":    {Spots: keys(1, n)},
			"spots of many":   {Spots: across(1, n)},
			"passing of one":  {Passing: held(keys(1, n))},
			"passing of many": {Passing: held(across(1, n))},
			"of each":         {Addrs: run(1, n), Spots: keys(1, n), Passing: held(keys(1, n))},
		} {
			if err := access.Check(x); (err == api.OK) != (n <= limit) {
				t.Errorf("%d %s: %d", n, name, err)
			}
		}
	}
}

// P9.1: each part, and each field of it, counts for Same.
func TestSame(t *testing.T) {
	base := api.Access{Addrs: []api.Addr{3, 20}, Spots: []api.Spot{at(3, w(7)), at(20, most())}, Passing: held([]api.Spot{at(3, w(7)), at(21, w(8))})}
	for name, change := range map[string]func(x *api.Access){
		"an address":           func(x *api.Access) { x.Addrs[0]++ },
		"the last address":     func(x *api.Access) { x.Addrs[1]++ },
		"an address more":      func(x *api.Access) { x.Addrs = append(x.Addrs, 21) },
		"an address less":      func(x *api.Access) { x.Addrs = x.Addrs[:1] },
		"no address":           func(x *api.Access) { x.Addrs = nil },
		"another order":        func(x *api.Access) { slices.Reverse(x.Addrs) },
		"a spot's address":     func(x *api.Access) { x.Spots[0].Addr++ },
		"a spot's key":         func(x *api.Access) { x.Spots[1].Key[0]++ },
		"a key's highest limb": func(x *api.Access) { x.Spots[1].Key[3]-- },
		"a spot more":          func(x *api.Access) { x.Spots = append(x.Spots, at(30, w(0))) },
		"a spot less":          func(x *api.Access) { x.Spots = x.Spots[1:] },
		"no spot":              func(x *api.Access) { x.Spots = nil },
		"spots' order":         func(x *api.Access) { slices.Reverse(x.Spots) },
		"passing's address":    func(x *api.Access) { x.Passing[1].Addr++ },
		"passing's key":        func(x *api.Access) { x.Passing[0].Key[2]++ },
		"passing's Val":        func(x *api.Access) { x.Passing[0].Val[0]++ },
		"a Val's highest limb": func(x *api.Access) { x.Passing[1].Val[3]++ },
		"passing one more":     func(x *api.Access) { x.Passing = append(x.Passing, holding(at(30, w(0)), w(1))) },
		"passing one less":     func(x *api.Access) { x.Passing = x.Passing[:1] },
		"nothing passing":      func(x *api.Access) { x.Passing = nil },
		"passing's order":      func(x *api.Access) { slices.Reverse(x.Passing) },
		"nothing at all":       func(x *api.Access) { *x = api.Access{} },
	} {
		other := copied(base)
		change(&other)
		if access.Same(base, other) || access.Same(other, base) {
			t.Errorf("%s: no matter", name)
		}
		if !access.Same(other, copied(other)) || !access.Same(base, copied(base)) {
			t.Errorf("%s: not the same as itself", name)
		}
	}
}

// P9.1: Same is of what may not be, too; nil and empty lists are one.
func TestSameOfAny(t *testing.T) {
	all := badAccesses()
	maps.Copy(all, accesses())
	for a, x := range all {
		for b, y := range all {
			if have, want := access.Same(x, y), equal(x, y); have != want {
				t.Errorf("%q and %q: %v", a, b, have)
			}
		}
	}
}

// P9.1: New, of addresses in any order, some of which are one another.
func TestNew(t *testing.T) {
	twice := append(run(20, limit), run(20, limit)...)
	falling := run(20, limit)
	slices.Reverse(falling)
	for name, q := range map[string]struct{ warm, want []api.Addr }{
		"none":                     {nil, nil},
		"none, and empty":          {[]api.Addr{}, nil},
		"one":                      {[]api.Addr{20}, []api.Addr{20}},
		"0":                        {[]api.Addr{0}, []api.Addr{0}},
		"0, twice, and others":     {[]api.Addr{5, 0, 0}, []api.Addr{0, 5}},
		"the greatest":             {[]api.Addr{greatest, 0, 1 << 63}, []api.Addr{0, 1 << 63, greatest}},
		"the chapter's":            {[]api.Addr{3, 1, 3}, []api.Addr{1, 3}},
		"one, many times":          {[]api.Addr{7, 7, 7, 7, 7}, []api.Addr{7}},
		"falling":                  {[]api.Addr{9, 8, 3, 2}, []api.Addr{2, 3, 8, 9}},
		"one less than may be":     {run(20, limit-1), run(20, limit-1)},
		"as many as may be":        {run(20, limit), run(20, limit)},
		"as many, falling":         {falling, run(20, limit)},
		"as many, each twice":      {twice, run(20, limit)},
		"as many, and one of them": {append(run(20, limit), 20), run(20, limit)},
		"as many, and the last":    {append(run(20, limit), 20+limit-1), run(20, limit)},
		"one, very many times":     {make([]api.Addr, 5000), []api.Addr{0}},
	} {
		have, err := access.New(q.warm...)
		holds(t, name, have, err, api.Access{Addrs: q.want})
	}
}

// P9.1: New of more addresses than may be that are not one another.
func TestNewOfTooMany(t *testing.T) {
	for name, warm := range map[string][]api.Addr{
		"one more":          run(20, limit+1),
		"one more, at 0":    append(run(1, limit), 0),
		"one more, at last": append(run(1, limit), greatest),
		"one more, twice":   append(append(run(1, limit), 900), run(1, limit)...),
		"very many":         run(0, 5000),
	} {
		have, err := access.New(warm...)
		refused(t, name, have, false, err, api.ErrFull)
	}
}

// P9.4: Warm, of addresses that are, and that are not.
func TestWarm(t *testing.T) {
	for name, x := range accesses() {
		for _, a := range []api.Addr{0, 1, 2, 3, 15, 16, 19, 20, 21, 22, 100, 418, 419, 420, 421, 1 << 63, greatest - 1, greatest} {
			if have, want := access.Warm(x, a), slices.Contains(x.Addrs, a); have != want {
				t.Errorf("%s: Warm(%d): %v", name, a, have)
			}
		}
	}
}

// P9.4: Compare, of each two of spots in their order: by the address, then by the key.
func TestCompare(t *testing.T) {
	rising := []api.Spot{at(0, w(0)), at(0, w(1)), at(0, most()), at(1, w(0)), at(1, w(maxUint)), at(1, api.Word{0, 1}), at(1, api.Word{1, 1}),
		at(1, api.Word{0, 2}), at(1, api.Word{0, 0, 1}), at(1, api.Word{maxUint, 0, 1}), at(1, api.Word{0, 1, 1}), at(1, api.Word{0, 0, 0, 1}),
		at(1, api.Word{3: 1 << 63}), at(1, most()), at(2, w(0)), at(2, w(7)), at(1<<63-1, w(7)), at(1<<63, w(6)), at(greatest, w(0)), at(greatest, most())}
	for i, a := range rising {
		for j, b := range rising {
			want := 0
			if i < j {
				want = -1
			}
			if i > j {
				want = 1
			}
			if have := access.Compare(a, b); have != want {
				t.Errorf("Compare(%v, %v): %d; should be %d", a, b, have, want)
			}
		}
	}
}

// P9.2: Touch, of what is warm, and of what is cold: wherever it stands.
func TestTouch(t *testing.T) {
	some := api.Access{Addrs: []api.Addr{3, 20, 30}, Spots: keys(40, 3), Passing: held(across(50, 3))}
	room := api.Access{Addrs: run(20, limit-1), Spots: keys(20, limit), Passing: held(keys(20, limit))}
	for name, q := range map[string]struct {
		x    api.Access
		a    api.Addr
		cold bool
	}{
		"in nothing":               {api.Access{}, 20, true},
		"0, in nothing":            {api.Access{}, 0, true},
		"the greatest, in nothing": {api.Access{}, greatest, true},
		"the first one":            {some, 3, false},
		"between":                  {some, 20, false},
		"the last one":             {some, 30, false},
		"ahead of all":             {some, 0, true},
		"behind the first one":     {some, 4, true},
		"ahead of the last one":    {some, 29, true},
		"behind all":               {some, greatest, true},
		"of a spot alone":          {some, 40, true},
		"of what passes alone":     {some, 50, true},
		"the last that may be":     {room, 20 + limit - 1, true},
		"the last one, ahead":      {room, 0, true},
		"room for one, warm":       {room, 20, false},
		"as many, the first one":   {full(), 20, false},
		"as many, one of them":     {full(), 77, false},
		"as many, the last one":    {full(), 20 + limit - 1, false},
	} {
		have, cold, err := access.Touch(q.x, q.a)
		want := copied(q.x)
		if q.cold {
			want.Addrs = append(want.Addrs, q.a)
			slices.Sort(want.Addrs)
		}
		touches(t, name, have, cold, err, want, q.cold)
		if !access.Warm(have, q.a) {
			t.Errorf("%s: cold yet", name)
		}
		again, cold, err := access.Touch(have, q.a)
		touches(t, name+", twice", again, cold, err, want, false)
	}
	for _, a := range []api.Addr{0, 1, 19, 20 + limit, greatest} {
		have, cold, err := access.Touch(full(), a)
		refused(t, "too many", have, cold, err, api.ErrFull)
		have, cold, err = access.Touch(api.Access{Addrs: run(20, limit)}, a)
		refused(t, "too many, of nothing else", have, cold, err, api.ErrFull)
	}
}

// P9.2: Reach, of what is warm, and of what is cold: wherever it stands.
func TestReach(t *testing.T) {
	some := api.Access{Addrs: []api.Addr{3, 20, 30}, Spots: []api.Spot{at(3, w(7)), at(20, w(0)), at(20, w(9)), at(30, w(7))}, Passing: held(across(50, 3))}
	room := api.Access{Addrs: run(20, limit), Spots: keys(20, limit-1), Passing: held(keys(20, limit))}
	for name, q := range map[string]struct {
		x    api.Access
		s    api.Spot
		cold bool
	}{
		"in nothing":               {api.Access{}, at(20, w(7)), true},
		"the least, in nothing":    {api.Access{}, at(0, w(0)), true},
		"the greatest, in nothing": {api.Access{}, at(greatest, most()), true},
		"the first one":            {some, at(3, w(7)), false},
		"between":                  {some, at(20, w(9)), false},
		"the last one":             {some, at(30, w(7)), false},
		"ahead of all":             {some, at(3, w(6)), true},
		"another key":              {some, at(20, w(7)), true},
		"a key by a high limb":     {some, at(20, api.Word{9, 0, 0, 1}), true},
		"a key of others":          {some, at(20, w(5)), true},
		"another address's key":    {some, at(21, w(7)), true},
		"behind all":               {some, at(30, w(8)), true},
		"of what passes alone":     {some, at(50, w(5)), true},
		"the last that may be":     {room, at(20, w(limit-1)), true},
		"the last one, ahead":      {room, at(3, most()), true},
		"room for one, warm":       {room, at(20, w(0)), false},
		"as many, the first one":   {full(), at(20, w(0)), false},
		"as many, one of them":     {full(), at(20, w(77)), false},
		"as many, the last one":    {full(), at(20, w(limit-1)), false},
	} {
		have, cold, err := access.Reach(q.x, q.s)
		want := copied(q.x)
		want.Spots = inOrder(append(want.Spots, q.s))
		touches(t, name, have, cold, err, want, q.cold)
		again, cold, err := access.Reach(have, q.s)
		touches(t, name+", twice", again, cold, err, want, false)
	}
	for _, s := range []api.Spot{at(0, w(0)), at(19, most()), at(20, w(limit)), at(21, w(0)), at(greatest, most())} {
		have, cold, err := access.Reach(full(), s)
		refused(t, "too many", have, cold, err, api.ErrFull)
		have, cold, err = access.Reach(api.Access{Spots: keys(20, limit)}, s)
		refused(t, "too many, of nothing else", have, cold, err, api.ErrFull)
	}
}

// P9.3: Load, of each spot that holds something, and of others: of one address, of one key.
func TestLoad(t *testing.T) {
	for name, x := range accesses() {
		by := map[api.Spot]api.Word{}
		for _, p := range x.Passing {
			by[p.Spot] = p.Val
		}
		for _, near := range append(slices.Clone(x.Passing), api.Passing{}, holding(at(greatest, most()), w(1))) {
			s := near.Spot
			for _, q := range []api.Spot{s, at(s.Addr+1, s.Key), at(s.Addr-1, s.Key), at(s.Addr, api.Word{s.Key[0] + 1, s.Key[1], s.Key[2], s.Key[3]}),
				at(s.Addr, api.Word{s.Key[0] - 1, s.Key[1], s.Key[2], s.Key[3]}), at(s.Addr, api.Word{s.Key[0], s.Key[1], s.Key[2], ^s.Key[3]})} {
				if have := access.Load(x, q); have != by[q] {
					t.Errorf("%s: Load(%v): %v; should be %v", name, q, have, by[q])
				}
			}
		}
	}
}

// keeps fails, unless Keep makes of x's what is passing just want.
func keeps(t *testing.T, name string, x api.Access, s api.Spot, v api.Word, want ...api.Passing) {
	t.Helper()
	have, err := access.Keep(x, s, v)
	behind := copied(x)
	behind.Passing = want
	holds(t, name, have, err, behind)
	if loaded := access.Load(have, s); loaded != v {
		t.Errorf("%s: Load behind Keep: %v", name, loaded)
	}
}

// P9.3: Keep, of slots that hold something, and that hold 0.
func TestKeep(t *testing.T) {
	a, b, c := holding(at(3, w(7)), w(1)), holding(at(20, w(7)), w(2)), holding(at(20, w(9)), most())
	some := api.Access{Addrs: []api.Addr{3, 20, 30}, Spots: keys(40, 3), Passing: []api.Passing{a, b, c}}
	change := func(p api.Passing, v api.Word) api.Passing { return holding(p.Spot, v) }

	keeps(t, "in nothing", api.Access{}, b.Spot, w(2), b)
	keeps(t, "the least, in nothing", api.Access{}, at(0, w(0)), w(1), holding(at(0, w(0)), w(1)))
	keeps(t, "the greatest, in nothing", api.Access{}, at(greatest, most()), most(), holding(at(greatest, most()), most()))
	keeps(t, "0, in nothing", api.Access{}, b.Spot, w(0))
	keeps(t, "0 of the only one", api.Access{Passing: []api.Passing{b}}, b.Spot, w(0))

	keeps(t, "another value, the first one", some, a.Spot, w(5), change(a, w(5)), b, c)
	keeps(t, "another value, between", some, b.Spot, w(5), a, change(b, w(5)), c)
	keeps(t, "another value, the last one", some, c.Spot, w(5), a, b, change(c, w(5)))
	keeps(t, "another value, by a limb", some, b.Spot, api.Word{2, 0, 0, 1}, a, change(b, api.Word{2, 0, 0, 1}), c)
	keeps(t, "the same value", some, b.Spot, b.Val, a, b, c)
	keeps(t, "0, the first one", some, a.Spot, w(0), b, c)
	keeps(t, "0, between", some, b.Spot, w(0), a, c)
	keeps(t, "0, the last one", some, c.Spot, w(0), a, b)
	keeps(t, "0 of one that holds 0", some, at(20, w(8)), w(0), a, b, c)
	keeps(t, "0 of one ahead of all", some, at(0, w(0)), w(0), a, b, c)
	keeps(t, "0 of one behind all", some, at(greatest, most()), w(0), a, b, c)

	keeps(t, "ahead of all", some, at(3, w(6)), w(4), holding(at(3, w(6)), w(4)), a, b, c)
	keeps(t, "a key between", some, at(20, w(8)), w(4), a, b, holding(at(20, w(8)), w(4)), c)
	keeps(t, "an address between", some, at(4, w(7)), w(4), a, holding(at(4, w(7)), w(4)), b, c)
	keeps(t, "behind all", some, at(21, w(7)), w(4), a, b, c, holding(at(21, w(7)), w(4)))
	keeps(t, "of a warm spot", some, at(40, w(0)), w(4), a, b, c, holding(at(40, w(0)), w(4)))
}

// P9.3: Keep where as many are held as may be, and one less.
func TestKeepOfMany(t *testing.T) {
	all := full().Passing
	for _, i := range []int{0, 1, 77, limit - 2, limit - 1} {
		other := slices.Clone(all)
		other[i].Val = w(9999)
		keeps(t, "another value", full(), all[i].Spot, w(9999), other...)
		keeps(t, "the same value", full(), all[i].Spot, all[i].Val, all...)
		keeps(t, "0 of one that is held", full(), all[i].Spot, w(0), slices.Delete(slices.Clone(all), i, i+1)...)
	}
	room := api.Access{Addrs: run(20, limit), Spots: keys(20, limit), Passing: held(keys(20, limit-1))}
	last, ahead := holding(at(20, w(limit-1)), w(4)), holding(at(3, w(5)), w(4))
	keeps(t, "the last that may be", room, last.Spot, last.Val, append(slices.Clone(room.Passing), last)...)
	keeps(t, "the last one, ahead", room, ahead.Spot, ahead.Val, append([]api.Passing{ahead}, room.Passing...)...)
	for _, s := range []api.Spot{at(0, w(0)), at(19, most()), at(20, w(limit)), at(21, w(0)), at(greatest, most())} {
		keeps(t, "0 of one that is not held", full(), s, w(0), all...)
		for _, v := range []api.Word{w(1), {3: 1}, most()} {
			have, err := access.Keep(full(), s, v)
			refused(t, "too many", have, false, err, api.ErrFull)
			have, err = access.Keep(api.Access{Passing: all}, s, v)
			refused(t, "too many, of nothing else", have, false, err, api.ErrFull)
		}
	}
}

// R2: ErrAccess goes ahead of all else; Load and Warm tell nothing of what may not be (P9.3, P9.4).
func TestAskedOfBad(t *testing.T) {
	for name, x := range badAccesses() {
		for _, a := range []api.Addr{0, 1, 3, 20, 21, 30, limit, 20 + limit, greatest} {
			have, cold, err := access.Touch(x, a)
			refused(t, "Touch of "+name, have, cold, err, api.ErrAccess)
			if access.Warm(x, a) {
				t.Errorf("%s: %d is warm", name, a)
			}
			for _, key := range []api.Word{w(0), w(5), w(7), w(limit), most()} {
				s := at(a, key)
				have, cold, err := access.Reach(x, s)
				refused(t, "Reach of "+name, have, cold, err, api.ErrAccess)
				for _, v := range []api.Word{w(0), w(1)} {
					have, err = access.Keep(x, s, v)
					refused(t, "Keep of "+name, have, false, err, api.ErrAccess)
				}
				if v := access.Load(x, s); v != w(0) {
					t.Errorf("%s: Load(%v): %v", name, s, v)
				}
			}
		}
	}
}

// The chapter's examples.
func TestExamples(t *testing.T) {
	x, err := access.New(3, 1, 3)
	holds(t, "New(3 1 3)", x, err, api.Access{Addrs: []api.Addr{1, 3}})
	x, cold, err := access.Touch(x, 1)
	touches(t, "Touch(1)", x, cold, err, api.Access{Addrs: []api.Addr{1, 3}}, false)
	x, cold, err = access.Touch(x, 2)
	touches(t, "Touch(2)", x, cold, err, api.Access{Addrs: []api.Addr{1, 2, 3}}, true)
	x, cold, err = access.Touch(x, 2)
	touches(t, "Touch(2)", x, cold, err, api.Access{Addrs: []api.Addr{1, 2, 3}}, false)

	want := api.Access{Addrs: []api.Addr{1, 2, 3}, Spots: []api.Spot{at(1, w(7))}}
	x, cold, err = access.Reach(x, at(1, w(7)))
	touches(t, "Reach(1 7)", x, cold, err, want, true)
	x, cold, err = access.Reach(x, at(1, w(7)))
	touches(t, "Reach(1 7)", x, cold, err, want, false)
	x, cold, err = access.Reach(x, at(2, w(7)))
	want.Spots = append(want.Spots, at(2, w(7)))
	touches(t, "Reach(2 7)", x, cold, err, want, true)

	x, err = access.Keep(x, at(1, w(7)), w(5))
	want.Passing = []api.Passing{holding(at(1, w(7)), w(5))}
	holds(t, "Keep(1 7: 5)", x, err, want)
	if v := access.Load(x, at(1, w(7))); v != w(5) {
		t.Errorf("Load(1 7): %v", v)
	}
	x, err = access.Keep(x, at(1, w(7)), w(0))
	want.Passing = nil
	holds(t, "Keep(1 7: 0)", x, err, want)
	if v := access.Load(x, at(1, w(7))); v != w(0) {
		t.Errorf("Load(1 7): %v", v)
	}
}

// roomy is an access with room behind the ends of its lists, in which something stands.
func roomy() api.Access {
	return api.Access{
		Addrs:   []api.Addr{3, 20, 30, 77, 78, 0}[:3],
		Spots:   []api.Spot{at(3, w(7)), at(20, w(7)), at(20, w(9)), at(77, w(1)), at(78, w(1)), {}}[:3],
		Passing: []api.Passing{holding(at(3, w(7)), w(1)), holding(at(20, w(7)), w(2)), holding(at(20, w(9)), w(3)), holding(at(77, w(1)), w(4)), {}}[:3],
	}
}

// whole is x with all the room behind its lists' ends.
func whole(x api.Access) api.Access {
	return api.Access{Addrs: x.Addrs[:cap(x.Addrs)], Spots: x.Spots[:cap(x.Spots)], Passing: x.Passing[:cap(x.Passing)]}
}

// wipe makes nothing of all memory that x has.
func wipe(x api.Access) {
	all := whole(x)
	clear(all.Addrs)
	clear(all.Spots)
	clear(all.Passing)
}

// changes are calls that change an access, or leave it, by their names.
func changes() map[string]func(x api.Access) api.Access {
	all := map[string]func(x api.Access) api.Access{}
	for _, a := range []api.Addr{0, 3, 20, 25, 30, 40} {
		all["Touch "+strconv.Itoa(int(a))] = func(x api.Access) api.Access {
			next, _, _ := access.Touch(x, a)
			return next
		}
		for _, key := range []uint64{7, 8, 9} {
			s := at(a, w(key))
			name := strconv.Itoa(int(a)) + " " + strconv.Itoa(int(key))
			all["Reach "+name] = func(x api.Access) api.Access {
				next, _, _ := access.Reach(x, s)
				return next
			}
			for _, v := range []uint64{0, 1, 5} {
				all["Keep "+name+": "+strconv.Itoa(int(v))] = func(x api.Access) api.Access {
					next, _ := access.Keep(x, s, w(v))
					return next
				}
			}
		}
	}
	return all
}

// R3: what is handed in stays as it is, the room behind its end, too, and is not kept: neither changes with the other one.
func TestNewMemory(t *testing.T) {
	for name, change := range changes() {
		x := roomy()
		have := change(x)
		want := copied(have)
		if !equal(whole(x), whole(roomy())) {
			t.Errorf("%s: what was handed in is %v now", name, whole(x))
		}
		wipe(x)
		if !equal(have, want) {
			t.Errorf("%s: %v, once what was handed in is cleared; should be %v", name, have, want)
		}
		x = roomy()
		wipe(change(x))
		if !equal(whole(x), whole(roomy())) {
			t.Errorf("%s: what was handed in is %v, once the answer is cleared", name, whole(x))
		}
		one, other := change(x), change(x)
		wipe(one)
		if !equal(other, want) {
			t.Errorf("%s: %v, once another answer is cleared", name, other)
		}
	}
}

// R3: New neither changes nor keeps what it is handed, in order or not.
func TestNewOfMemory(t *testing.T) {
	for _, warm := range [][]api.Addr{{3, 20, 30}, {30, 3, 20}, {30, 3, 30, 20, 3}} {
		room := append(slices.Clone(warm), 77, 78)
		have, err := access.New(room[:len(warm)]...)
		holds(t, "New", have, err, api.Access{Addrs: []api.Addr{3, 20, 30}})
		if !slices.Equal(room, append(slices.Clone(warm), 77, 78)) {
			t.Errorf("what was handed in is %v now", room)
		}
		clear(room)
		holds(t, "New, once what was handed in is cleared", have, err, api.Access{Addrs: []api.Addr{3, 20, 30}})
		room = append(slices.Clone(warm), 77, 78)
		have, _ = access.New(room[:len(warm)]...)
		wipe(have)
		if !slices.Equal(room, append(slices.Clone(warm), 77, 78)) {
			t.Errorf("what was handed in is %v, once the answer is cleared", room)
		}
	}
}

// R3: what is asked, and what is refused, changes nothing.
func TestAskedStays(t *testing.T) {
	x := roomy()
	access.Check(x)
	access.Same(x, x)
	for _, a := range []api.Addr{0, 3, 20, 40} {
		access.Warm(x, a)
		access.Load(x, at(a, w(7)))
	}
	if !equal(whole(x), whole(roomy())) {
		t.Errorf("what was handed in is %v now", whole(x))
	}
	all := full()
	for _, s := range []api.Spot{at(0, w(0)), at(21, w(5)), at(greatest, most())} {
		access.Touch(all, s.Addr+500)
		access.Reach(all, s)
		access.Keep(all, s, w(1))
	}
	if !equal(all, full()) {
		t.Errorf("what was handed in is %v now", all)
	}
	bad := api.Access{Addrs: []api.Addr{30, 20}, Spots: []api.Spot{at(20, w(7)), at(3, w(7))}, Passing: []api.Passing{{}, {}}}
	was := copied(bad)
	for name, change := range changes() {
		if have := change(bad); !equal(have, api.Access{}) || !equal(bad, was) {
			t.Errorf("%s: %v; what was handed in is %v now", name, have, bad)
		}
	}
}

// R3: nil and empty lists are one, in what is handed in and in what is answered: nothing tells them apart.
func TestNilAndEmpty(t *testing.T) {
	none, empty := api.Access{}, api.Access{Addrs: []api.Addr{}, Spots: []api.Spot{}, Passing: []api.Passing{}}
	for name, change := range changes() {
		if x, y := change(none), change(empty); !reflect.DeepEqual(x, y) {
			t.Errorf("%s: %#v; %#v", name, x, y)
		}
	}
	one, err := access.Keep(none, at(20, w(7)), w(1))
	holds(t, "one", one, err, api.Access{Passing: []api.Passing{holding(at(20, w(7)), w(1))}})
	for name, x := range map[string]api.Access{"none": none, "empty": empty, "one": one} {
		have, err := access.Keep(x, at(20, w(7)), w(0))
		holds(t, name, have, err, none)
		if !reflect.DeepEqual(have, none) {
			t.Errorf("%s: %#v", name, have)
		}
	}
	x, errX := access.New()
	y, errY := access.New([]api.Addr{}...)
	if errX != errY || !reflect.DeepEqual(x, y) || !reflect.DeepEqual(x, none) {
		t.Errorf("New: %#v, %d; %#v, %d", x, errX, y, errY)
	}
	if access.Check(none) != api.OK || access.Check(empty) != api.OK || !access.Same(none, empty) || !access.Same(empty, none) {
		t.Error("nil and empty are two")
	}
}
