package nonce_test

import (
	"maps"
	"math"
	"reflect"
	"slices"
	"testing"

	"sheafer/api"
	"sheafer/nonce"
)

// greatest is the greatest address; seqEnd the greatest sequence; maxUint all bits of a limb.
const (
	greatest api.Addr = math.MaxUint64
	seqEnd            = 18446744073709551615
	maxUint           = math.MaxUint64
)

// w is the word of a number below 2^64; up that number times 2^64; keyEnd is 2^192 less 1, noKey 2^192, most 2^256 less 1.
func w(n uint64) api.Word {
	return api.Word{n}
}

func up(n uint64) api.Word {
	return api.Word{0, n}
}

func keyEnd() api.Word {
	return api.Word{maxUint, maxUint, maxUint}
}

func noKey() api.Word {
	return api.Word{3: 1}
}

func most() api.Word {
	return api.Word{maxUint, maxUint, maxUint, maxUint}
}

func of(a api.Addr, key api.Word, next uint64) api.Nonce {
	return api.Nonce{Addr: a, Key: key, Next: next}
}

// run is n nonces of the key 0, from the address a on; keys is n nonces of the address a, from the key 0 on.
func run(a api.Addr, n int) []api.Nonce {
	var l []api.Nonce
	for i := range n {
		l = append(l, of(a+api.Addr(i), w(0), 1))
	}
	return l
}

func keys(a api.Addr, n int) []api.Nonce {
	var l []api.Nonce
	for i := range n {
		l = append(l, of(a, w(uint64(i)), 1))
	}
	return l
}

// pair is an address and a word: a key, or a nonce word.
type pair struct {
	a    api.Addr
	word api.Word
}

// with is l, of which each of these has just that Next. It is made without the package's own calls.
func with(l []api.Nonce, more ...api.Nonce) []api.Nonce {
	by := map[pair]api.Nonce{}
	for _, x := range append(slices.Clone(l), more...) {
		by[pair{x.Addr, x.Key}] = x
	}
	return slices.SortedFunc(maps.Values(by), func(x, y api.Nonce) int {
		return slices.Compare([]uint64{uint64(x.Addr), x.Key[3], x.Key[2], x.Key[1], x.Key[0]},
			[]uint64{uint64(y.Addr), y.Key[3], y.Key[2], y.Key[1], y.Key[0]})
	})
}

// lists are nonces that may be, by their names.
func lists() map[string][]api.Nonce {
	return map[string][]api.Nonce{
		"none":                    nil,
		"none, and empty":         {},
		"one":                     {of(20, w(0), 1)},
		"the least of all":        {of(1, w(0), 1)},
		"the greatest of all":     {of(greatest, keyEnd(), seqEnd)},
		"the greatest key":        {of(20, keyEnd(), 7)},
		"the greatest sequence":   {of(20, w(0), seqEnd)},
		"the greatest but one":    {of(20, w(0), seqEnd-1)},
		"keys of one":             {of(20, w(0), 2), of(20, w(1), 1), of(20, keyEnd(), 9)},
		"keys by their limbs":     {of(20, w(maxUint), 1), of(20, up(1), 1), of(20, api.Word{1, 1}, 1), of(20, api.Word{0, 0, 1}, 1), of(20, api.Word{0, 1, 1}, 1)},
		"a key of several":        {of(20, w(5), 1), of(21, w(5), 1), of(22, w(5), 3)},
		"several keys of several": {of(3, w(5), 1), of(3, w(9), 1), of(20, w(0), 4), of(20, w(5), 2), of(greatest, w(9), 1)},
		"lesser keys behind":      {of(20, keyEnd(), 1), of(21, w(0), 1)},
		"Nexts that fall":         {of(20, w(0), 9), of(20, w(1), 4), of(21, w(0), 1)},
		"addresses far apart":     {of(1, w(0), 1), of(1<<63, w(0), 1), of(greatest, w(0), 1)},
		"as many as may be":       run(20, 48),
		"as many, of one":         keys(20, 48),
		"as many, of two":         append(keys(20, 24), keys(21, 24)...),
		"room for one":            run(20, 47),
	}
}

// badOnes are nonces each of which may not be by itself, by their names; those that have an address have the address 20.
func badOnes() map[string]api.Nonce {
	return map[string]api.Nonce{
		"nothing at all":          {},
		"the address 0":           of(0, w(0), 1),
		"the address 0, of a key": of(0, w(5), 9),
		"a Next of 0":             of(20, w(0), 0),
		"a Next of 0, of a key":   of(20, w(5), 0),
		"a Key of 2^192":          of(20, noKey(), 1),
		"a Key of 2^192 and more": of(20, api.Word{1, 0, 0, 1}, 1),
		"a Key of 2^255":          of(20, api.Word{3: 1 << 63}, 1),
		"the greatest word":       of(20, most(), seqEnd),
		"no Key, and a Next of 0": of(20, noKey(), 0),
		"no address, and no Key":  of(0, most(), 1),
		"no address, a Next of 0": of(0, w(0), 0),
		"none of all three":       of(0, noKey(), 0),
	}
}

// badLists are nonces that may not be, by their names.
func badLists() map[string][]api.Nonce {
	all := map[string][]api.Nonce{
		"one too many":               run(20, 49),
		"one too many, of one":       keys(20, 49),
		"very many":                  keys(20, 5000),
		"addresses that fall":        {of(21, w(0), 1), of(20, w(0), 1)},
		"that fall, of rising keys":  {of(21, w(0), 1), of(20, w(1), 1)},
		"that fall, far apart":       {of(greatest, w(0), 1), of(1, w(0), 1)},
		"that fall at last":          append(run(20, 40), of(3, w(9), 1)),
		"that come back":             {of(20, w(0), 1), of(21, w(0), 1), of(20, w(1), 1)},
		"keys that fall":             {of(20, w(1), 1), of(20, w(0), 1)},
		"keys that fall by a limb":   {of(20, up(1), 1), of(20, w(maxUint), 1)},
		"keys that fall by two":      {of(20, api.Word{0, 0, 1}, 1), of(20, api.Word{maxUint, maxUint}, 1)},
		"keys that fall at last":     append(keys(20, 40), of(20, w(3), 1)),
		"keys that fall, not at 1st": {of(3, w(9), 1), of(20, w(1), 1), of(20, w(0), 1), of(21, w(0), 1)},
		"twice of both":              {of(20, w(5), 1), of(20, w(5), 1)},
		"twice, with another Next":   {of(20, w(5), 1), of(20, w(5), 2)},
		"twice, behind others":       {of(3, w(5), 1), of(20, w(0), 2), of(20, w(5), 1), of(20, w(5), 1), of(30, w(0), 1)},
		"twice, apart":               {of(20, w(5), 1), of(20, w(6), 1), of(20, w(5), 1)},
		"twice, the greatest":        {of(greatest, keyEnd(), seqEnd), of(greatest, keyEnd(), seqEnd)},
	}
	for name, x := range badOnes() {
		all["alone: "+name] = []api.Nonce{x}
		all["the first one: "+name] = []api.Nonce{x, of(30, w(0), 1)}
		all["the last one: "+name] = []api.Nonce{of(3, w(0), 1), x}
		all["between: "+name] = []api.Nonce{of(3, w(0), 1), x, of(30, w(0), 1)}
	}
	return all
}

// holds fails, unless what came are the nonces want, without an error, and they may be.
func holds(t *testing.T, name string, have []api.Nonce, err api.Errno, want []api.Nonce) {
	t.Helper()
	if err != api.OK || !slices.Equal(have, want) {
		t.Errorf("%s: %v, %d; should be %v", name, have, err, want)
	}
	if e := nonce.Check(have); e != api.OK {
		t.Errorf("%s: what comes may not be: %v, %d", name, have, e)
	}
}

// refused fails, unless what came is that error, and no nonces.
func refused(t *testing.T, name string, have []api.Nonce, err, want api.Errno) {
	t.Helper()
	if err != want || len(have) != 0 {
		t.Errorf("%s: %v, %d; should be the error %d alone", name, have, err, want)
	}
}

// says fails, unless what came is just that word and that error.
func says(t *testing.T, name string, have api.Word, err api.Errno, want api.Word, wantErr api.Errno) {
	t.Helper()
	if have != want || err != wantErr {
		t.Errorf("%s: %v, %d; should be %v, %d", name, have, err, want, wantErr)
	}
}

// P8.1: Check, of nonces that may be, and that may not.
func TestCheck(t *testing.T) {
	for name, l := range lists() {
		if err := nonce.Check(l); err != api.OK {
			t.Errorf("%s: %d", name, err)
		}
	}
	for name, l := range badLists() {
		if err := nonce.Check(l); err != api.ErrNonces {
			t.Errorf("%s: %d", name, err)
		}
	}
	for n := range 100 {
		for name, l := range map[string][]api.Nonce{"addresses": run(1, n), "keys": keys(1, n)} {
			if err := nonce.Check(l); (err == api.OK) != (n <= 48) {
				t.Errorf("%d %s: %d", n, name, err)
			}
		}
	}
}

// P8.1: each field counts for Same, and nothing else.
func TestSame(t *testing.T) {
	base := []api.Nonce{of(15, w(7), 5), of(20, keyEnd(), 1), of(30, w(1), 2)}
	for name, change := range map[string]func(x *api.Nonce){
		"Addr":              func(x *api.Nonce) { x.Addr++ },
		"Key, least limb":   func(x *api.Nonce) { x.Key[0]++ },
		"Key, third limb":   func(x *api.Nonce) { x.Key[2]++ },
		"Key, highest limb": func(x *api.Nonce) { x.Key[3]++ },
		"Next":              func(x *api.Nonce) { x.Next++ },
		"all of it":         func(x *api.Nonce) { *x = api.Nonce{} },
	} {
		for place := range base {
			other := slices.Clone(base)
			change(&other[place])
			if nonce.Same(base, other) || nonce.Same(other, base) {
				t.Errorf("%s of the nonce %d: no matter", name, place)
			}
		}
	}
	for n := range 3 {
		if less := base[:n]; nonce.Same(base, less) || nonce.Same(less, base) {
			t.Errorf("the first %d alone: the same", n)
		}
	}
	swapped := []api.Nonce{base[1], base[0], base[2]}
	if nonce.Same(base, swapped) || nonce.Same(nil, []api.Nonce{{}}) {
		t.Error("nonces in another order, or one of nothing more: the same")
	}
}

// P8.1: Same is of what may not be, too; nil and empty nonces are one.
func TestSameOfAny(t *testing.T) {
	all := badLists()
	maps.Copy(all, lists())
	for a, l := range all {
		for b, m := range all {
			if have, want := nonce.Same(l, slices.Clone(m)), slices.Equal(l, m); have != want {
				t.Errorf("%q and %q: %v", a, b, have)
			}
		}
	}
}

// P8.2: Split and Join, and that they are one another's way back.
func TestSplitJoin(t *testing.T) {
	for name, q := range map[string]struct {
		word, key api.Word
		seq       uint64
	}{
		"0":                     {w(0), w(0), 0},
		"a sequence of 1":       {w(1), w(0), 1},
		"the greatest but one":  {w(seqEnd - 1), w(0), seqEnd - 1},
		"the greatest sequence": {w(seqEnd), w(0), seqEnd},
		"a key of 1":            {up(1), w(1), 0},
		"both":                  {api.Word{5, 1}, w(1), 5},
		"a key by its limbs":    {api.Word{4, 1, 2, 3}, api.Word{1, 2, 3}, 4},
		"the greatest key":      {api.Word{0, maxUint, maxUint, maxUint}, keyEnd(), 0},
		"its second sequence":   {api.Word{1, maxUint, maxUint, maxUint}, keyEnd(), 1},
		"the greatest of both":  {most(), keyEnd(), seqEnd},
		"the highest bit":       {api.Word{3: 1 << 63}, api.Word{0, 0, 1 << 63}, 0},
	} {
		if key, seq := nonce.Split(q.word); key != q.key || seq != q.seq {
			t.Errorf("Split of %s: %v, %d; should be %v, %d", name, key, seq, q.key, q.seq)
		}
		have, err := nonce.Join(q.key, q.seq)
		says(t, "Join of "+name, have, err, q.word, api.OK)
	}
}

// noKeys are words that are no keys.
func noKeys() []api.Word {
	return []api.Word{noKey(), {1, 0, 0, 1}, {maxUint, maxUint, maxUint, 1}, {0, 0, 0, 2}, {3: 1 << 32}, {3: 1 << 63}, most()}
}

// P8.2: Join refuses what is no key, whatever the sequence.
func TestJoinOfNoKey(t *testing.T) {
	for _, key := range noKeys() {
		for _, seq := range []uint64{0, 1, 5, seqEnd - 1, seqEnd} {
			have, err := nonce.Join(key, seq)
			says(t, "Join of no key", have, err, w(0), api.ErrArg)
		}
	}
}

// P8.3: Next, of a key that has a nonce, of one that has none, of what is no key.
func TestNext(t *testing.T) {
	l := []api.Nonce{of(3, w(5), 7), of(20, w(0), 4), of(20, w(5), 2), of(20, up(1), seqEnd), of(20, keyEnd(), 1), of(21, w(5), 9), of(greatest, w(0), seqEnd-1)}
	for name, q := range map[string]struct {
		l    []api.Nonce
		a    api.Addr
		key  api.Word
		want api.Word
		err  api.Errno
	}{
		"of no nonces":              {nil, 20, w(0), w(0), api.OK},
		"of no nonces, a key":       {nil, 20, w(5), up(5), api.OK},
		"of none, the greatest key": {nil, 1, keyEnd(), api.Word{0, maxUint, maxUint, maxUint}, api.OK},
		"the first key":             {l, 20, w(0), w(4), api.OK},
		"another key":               {l, 20, w(5), api.Word{2, 5}, api.OK},
		"a key of two limbs":        {l, 20, up(1), api.Word{seqEnd, 0, 1}, api.OK},
		"the greatest key":          {l, 20, keyEnd(), api.Word{1, maxUint, maxUint, maxUint}, api.OK},
		"the key of one ahead":      {l, 3, w(5), api.Word{7, 5}, api.OK},
		"the key of one behind":     {l, 21, w(5), api.Word{9, 5}, api.OK},
		"the greatest address":      {l, greatest, w(0), w(seqEnd - 1), api.OK},
		"a key that has none":       {l, 20, w(1), up(1), api.OK},
		"a key of others alone":     {l, 3, w(0), w(0), api.OK},
		"a key behind all":          {l, greatest, keyEnd(), api.Word{0, maxUint, maxUint, maxUint}, api.OK},
		"an address ahead of all":   {l, 1, w(5), up(5), api.OK},
		"an address that has none":  {l, 22, w(5), up(5), api.OK},
		"as many as may be":         {run(20, 48), 67, w(0), w(1), api.OK},
		"a key more than may be":    {run(20, 48), 67, w(1), up(1), api.OK},
		"no key":                    {l, 20, noKey(), w(0), api.ErrArg},
		"no key, of none":           {nil, 20, most(), w(0), api.ErrArg},
		"the address 0":             {l, 0, w(0), w(0), api.ErrArg},
		"the address 0, of none":    {nil, 0, w(5), w(0), api.ErrArg},
		"the address 0, no key":     {l, 0, noKey(), w(0), api.ErrArg},
	} {
		have, err := nonce.Next(q.l, q.a, q.key)
		says(t, name, have, err, q.want, q.err)
	}
	for _, key := range noKeys() {
		have, err := nonce.Next(l, 20, key)
		says(t, "Next of no key", have, err, w(0), api.ErrArg)
	}
}

// P8.3: Use.
func TestUse(t *testing.T) {
	l := []api.Nonce{of(3, w(5), 7), of(20, w(0), 4), of(20, w(5), 2), of(20, up(1), seqEnd), of(20, keyEnd(), 1), of(greatest, w(0), seqEnd-1)}
	full, room := run(20, 48), run(20, 47)
	ended := with(full, of(30, w(0), seqEnd))
	for name, q := range map[string]struct {
		l    []api.Nonce
		a    api.Addr
		w    api.Word
		err  api.Errno
		gets api.Nonce
	}{
		"the first one":              {nil, 20, w(0), api.OK, of(20, w(0), 1)},
		"the first one, of a key":    {nil, 1, up(5), api.OK, of(1, w(5), 1)},
		"the first one, the last":    {nil, greatest, api.Word{0, maxUint, maxUint, maxUint}, api.OK, of(greatest, keyEnd(), 1)},
		"the next one":               {l, 20, w(4), api.OK, of(20, w(0), 5)},
		"of another key":             {l, 20, api.Word{2, 5}, api.OK, of(20, w(5), 3)},
		"of the greatest key":        {l, 20, api.Word{1, maxUint, maxUint, maxUint}, api.OK, of(20, keyEnd(), 2)},
		"of another address":         {l, 3, api.Word{7, 5}, api.OK, of(3, w(5), 8)},
		"of a key between":           {l, 20, up(2), api.OK, of(20, w(2), 1)},
		"of a key behind":            {l, greatest, up(2), api.OK, of(greatest, w(2), 1)},
		"of a key of others":         {l, greatest, up(5), api.OK, of(greatest, w(5), 1)},
		"of one ahead of all":        {l, 1, w(0), api.OK, of(1, w(0), 1)},
		"of one between":             {l, 21, up(5), api.OK, of(21, w(5), 1)},
		"used already":               {l, 20, w(3), api.ErrNonce, api.Nonce{}},
		"used long ago":              {l, 20, w(0), api.ErrNonce, api.Nonce{}},
		"one ahead":                  {l, 20, w(5), api.ErrNonce, api.Nonce{}},
		"another key's next":         {l, 20, api.Word{4, 5}, api.ErrNonce, api.Nonce{}},
		"another address's next":     {l, 3, w(4), api.ErrNonce, api.Nonce{}},
		"not the first one":          {nil, 20, w(1), api.ErrNonce, api.Nonce{}},
		"not the first, of a key":    {l, 20, api.Word{1, 1}, api.ErrNonce, api.Nonce{}},
		"not the first, the last":    {nil, 20, w(seqEnd), api.ErrNonce, api.Nonce{}},
		"the greatest of all words":  {l, 20, most(), api.ErrNonce, api.Nonce{}},
		"the last but one":           {l, greatest, w(seqEnd - 1), api.OK, of(greatest, w(0), seqEnd)},
		"the last, not the next":     {l, greatest, w(seqEnd), api.ErrNonce, api.Nonce{}},
		"the last":                   {l, 20, api.Word{seqEnd, 0, 1}, api.ErrFull, api.Nonce{}},
		"the last was the next":      {l, 20, api.Word{seqEnd - 1, 0, 1}, api.ErrNonce, api.Nonce{}},
		"the first behind the last":  {l, 20, api.Word{0, 0, 1}, api.ErrNonce, api.Nonce{}},
		"the last that may be":       {room, 67, w(0), api.OK, of(67, w(0), 1)},
		"the last one, ahead":        {room, 3, w(0), api.OK, of(3, w(0), 1)},
		"the last one, of a key":     {room, 66, up(1), api.OK, of(66, w(1), 1)},
		"as many, of one of them":    {full, 30, w(1), api.OK, of(30, w(0), 2)},
		"as many, of the last one":   {full, 67, w(1), api.OK, of(67, w(0), 2)},
		"too many, by an address":    {full, 68, w(0), api.ErrFull, api.Nonce{}},
		"too many, ahead":            {full, 3, w(0), api.ErrFull, api.Nonce{}},
		"too many, by a key":         {full, 67, up(1), api.ErrFull, api.Nonce{}},
		"too many, of one":           {keys(20, 48), 20, up(48), api.ErrFull, api.Nonce{}},
		"too many, not the next":     {full, 68, w(1), api.ErrNonce, api.Nonce{}},
		"too many, not next, a key":  {full, 67, api.Word{2, 1}, api.ErrNonce, api.Nonce{}},
		"too many, the last":         {full, 68, w(seqEnd), api.ErrNonce, api.Nonce{}},
		"as many, the last":          {ended, 30, w(seqEnd), api.ErrFull, api.Nonce{}},
		"as many, beside the last":   {ended, 31, w(1), api.OK, of(31, w(0), 2)},
		"the address 0":              {l, 0, w(0), api.ErrArg, api.Nonce{}},
		"the address 0, of none":     {nil, 0, w(0), api.ErrArg, api.Nonce{}},
		"the address 0, no next":     {nil, 0, w(1), api.ErrArg, api.Nonce{}},
		"the address 0, as many":     {full, 0, w(0), api.ErrArg, api.Nonce{}},
		"the address 0, any at all":  {full, 0, most(), api.ErrArg, api.Nonce{}},
		"the address 0, the last":    {ended, 0, w(seqEnd), api.ErrArg, api.Nonce{}},
		"the address 0, of some key": {l, 0, api.Word{2, 5}, api.ErrArg, api.Nonce{}},
	} {
		have, err := nonce.Use(q.l, q.a, q.w)
		if q.err != api.OK {
			refused(t, name, have, err, q.err)
			continue
		}
		holds(t, name, have, err, with(q.l, q.gets))
	}
}

// P8.4: Of, of addresses that have nonces, of such that have none, of 0.
func TestOf(t *testing.T) {
	l := []api.Nonce{of(3, w(5), 7), of(20, w(0), 4), of(20, w(5), 2), of(20, up(1), seqEnd), of(20, keyEnd(), 1), of(21, w(5), 9), of(greatest, w(0), 1)}
	for name, q := range map[string]struct {
		l    []api.Nonce
		a    api.Addr
		want []api.Word
	}{
		"of no nonces":         {nil, 20, nil},
		"one key":              {l, 3, []api.Word{{7, 5}}},
		"several keys":         {l, 20, []api.Word{w(4), {2, 5}, {seqEnd, 0, 1}, {1, maxUint, maxUint, maxUint}}},
		"a key of others, too": {l, 21, []api.Word{{9, 5}}},
		"the greatest":         {l, greatest, []api.Word{w(1)}},
		"one ahead of all":     {l, 1, nil},
		"one between":          {l, 4, nil},
		"one behind":           {l, 22, nil},
		"nearly the greatest":  {l, greatest - 1, nil},
		"0":                    {l, 0, nil},
		"0, of no nonces":      {nil, 0, nil},
		"as many as may be":    {run(20, 48), 67, []api.Word{w(1)}},
	} {
		if have := nonce.Of(q.l, q.a); !slices.Equal(have, q.want) {
			t.Errorf("%s: %v; should be %v", name, have, q.want)
		}
	}
	have := nonce.Of(keys(20, 48), 20)
	for i, x := range have {
		if want := (api.Word{1, uint64(i)}); x != want {
			t.Errorf("the key %d: %v", i, x)
		}
	}
	if len(have) != 48 {
		t.Errorf("of 48 keys: %d", len(have))
	}
}

// P8.4: Of tells each nonce just once, of its own address, as Next says.
func TestOfIsNext(t *testing.T) {
	for name, l := range lists() {
		told := map[api.Addr][]api.Word{}
		for _, x := range l {
			word, err := nonce.Next(l, x.Addr, x.Key)
			says(t, name, word, err, api.Word{x.Next, x.Key[0], x.Key[1], x.Key[2]}, api.OK)
			told[x.Addr] = append(told[x.Addr], word)
		}
		for a, want := range told {
			if have := nonce.Of(l, a); !slices.Equal(have, want) {
				t.Errorf("%s: Of(%d): %v; should be %v", name, a, have, want)
			}
		}
	}
}

// R2: ErrNonces goes ahead of all else; Of of what may not be tells none (P8.4).
func TestAskedOfBad(t *testing.T) {
	for name, l := range badLists() {
		for _, a := range []api.Addr{0, 1, 3, 20, 21, 30, greatest} {
			for _, word := range []api.Word{{}, w(1), w(5), up(5), {1, 5}, keyEnd(), noKey(), most()} {
				next, err := nonce.Next(l, a, word)
				says(t, "Next of "+name, next, err, w(0), api.ErrNonces)
				used, err := nonce.Use(l, a, word)
				refused(t, "Use of "+name, used, err, api.ErrNonces)
			}
			if have := nonce.Of(l, a); len(have) != 0 {
				t.Errorf("%s: Of(%d): %v", name, a, have)
			}
		}
	}
}

// The chapter's examples.
func TestExamples(t *testing.T) {
	if key, seq := nonce.Split(api.Word{5, 1}); key != w(1) || seq != 5 {
		t.Errorf("Split(2^64 and 5): %v, %d", key, seq)
	}
	word, err := nonce.Join(w(1), 5)
	says(t, "Join(1, 5)", word, err, api.Word{5, 1}, api.OK)

	l, err := nonce.Use(nil, 20, w(0))
	holds(t, "Use(none, 20, 0)", l, err, []api.Nonce{of(20, w(0), 1)})
	have, err := nonce.Use(l, 20, w(0))
	refused(t, "Use(20, 0)", have, err, api.ErrNonce)
	l, err = nonce.Use(l, 20, w(1))
	holds(t, "Use(20, 1)", l, err, []api.Nonce{of(20, w(0), 2)})
	l, err = nonce.Use(l, 20, up(1))
	holds(t, "Use(20, 2^64)", l, err, []api.Nonce{of(20, w(0), 2), of(20, w(1), 1)})
	word, err = nonce.Next(l, 20, w(1))
	says(t, "Next(20, 1)", word, err, api.Word{1, 1}, api.OK)

	if have := nonce.Of(l, 20); !slices.Equal(have, []api.Word{w(2), {1, 1}}) {
		t.Errorf("Of(20): %v", have)
	}
	if have := nonce.Of(l, 21); len(have) != 0 {
		t.Errorf("Of(21): %v", have)
	}
	have, err = nonce.Use(l, 0, w(0))
	refused(t, "Use(0, 0)", have, err, api.ErrArg)
	word, err = nonce.Join(noKey(), 0)
	says(t, "Join(2^192, 0)", word, err, w(0), api.ErrArg)
}

// roomy are nonces with room behind their end, in which something stands.
func roomy() []api.Nonce {
	l := []api.Nonce{of(18, w(7), 5), of(20, w(0), 4), of(20, w(5), 2), of(30, w(9), 1), of(77, w(1), 1), of(78, w(1), 1), {}}
	return l[:4]
}

// uses are words that are the next ones of roomy, by who uses them, and where that shows.
func uses() map[string]pair {
	return map[string]pair{
		"the first one": {18, api.Word{5, 7}},
		"between":       {20, w(4)},
		"the last one":  {30, api.Word{1, 9}},
		"ahead of all":  {3, w(0)},
		"a key between": {20, up(1)},
		"behind all":    {50, up(5)},
		"a last key":    {30, api.Word{0, 0, 1}},
	}
}

// R3: what is handed in stays as it is, the room behind its end, too, and is not kept: neither changes with the other one.
func TestNewMemory(t *testing.T) {
	room := func(l []api.Nonce) []api.Nonce { return l[:cap(l)] }
	for name, q := range uses() {
		l := roomy()
		have, err := nonce.Use(l, q.a, q.word)
		want := slices.Clone(have)
		if err != api.OK || !slices.Equal(room(l), room(roomy())) {
			t.Errorf("%s: what was handed in is %v now, %d", name, room(l), err)
		}
		clear(room(l))
		if !slices.Equal(have, want) {
			t.Errorf("%s: %v, once what was handed in is cleared; should be %v", name, have, want)
		}
		l = roomy()
		have, _ = nonce.Use(l, q.a, q.word)
		clear(room(have))
		if !slices.Equal(room(l), room(roomy())) {
			t.Errorf("%s: what was handed in is %v, once the answer is cleared", name, room(l))
		}
	}
}

// R3: what is asked, and what is refused, changes nothing; two answers are not one memory.
func TestAskedStays(t *testing.T) {
	l := roomy()
	nonce.Check(l)
	nonce.Same(l, l)
	nonce.Next(l, 20, w(5))
	one, other := nonce.Of(l, 20), nonce.Of(l, 20)
	clear(one[:cap(one)])
	if !slices.Equal(other, []api.Word{w(4), {2, 5}}) {
		t.Errorf("Of: %v, once another answer is cleared", other)
	}
	for _, a := range []api.Addr{0, 20, 30, 50} {
		for _, word := range []api.Word{w(9), {9, 9}, most()} {
			if have, err := nonce.Use(l, a, word); err == api.OK {
				t.Errorf("Use(%d, %v): %v, without an error", a, word, have)
			}
		}
	}
	if !slices.Equal(l[:cap(l)], roomy()[:cap(roomy())]) {
		t.Errorf("what was handed in is %v now", l)
	}
}

// R3: nil and empty nonces are one, in what is handed in and in what is answered.
func TestNilAndEmpty(t *testing.T) {
	none, empty := []api.Nonce(nil), []api.Nonce{}
	for _, a := range []api.Addr{0, 20} {
		for _, word := range []api.Word{{}, w(1), up(1), noKey()} {
			x, errX := nonce.Use(none, a, word)
			y, errY := nonce.Use(empty, a, word)
			if errX != errY || !reflect.DeepEqual(x, y) {
				t.Errorf("Use(%d, %v): %#v, %d; %#v, %d", a, word, x, errX, y, errY)
			}
			next, errX := nonce.Next(none, a, word)
			same, errY := nonce.Next(empty, a, word)
			says(t, "Next", next, errX, same, errY)
		}
		if x, y := nonce.Of(none, a), nonce.Of(empty, a); len(x) != 0 || !reflect.DeepEqual(x, y) {
			t.Errorf("Of(%d): %#v; %#v", a, x, y)
		}
	}
	if nonce.Check(none) != api.OK || nonce.Check(empty) != api.OK || !nonce.Same(none, empty) || !nonce.Same(empty, none) {
		t.Error("nil and empty are two")
	}
}
