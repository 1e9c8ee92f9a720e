package access_test

import (
	"maps"
	"slices"
	"testing"

	"sheafer/access"
	"sheafer/api"
)

// plain is an access as maps, against which the package's answers are held: what is there is warm; what passes, by what holds it.
type plain struct {
	addrs   map[api.Addr]struct{}
	spots   map[api.Spot]struct{}
	passing map[api.Spot]api.Word
}

// add puts x into a set of limit things at most, and tells whether it was not there, and what is wrong.
func add[T comparable](set map[T]struct{}, x T) (bool, api.Errno) {
	if _, there := set[x]; there {
		return false, api.OK
	}
	if len(set) >= limit {
		return false, api.ErrFull
	}
	set[x] = struct{}{}
	return true, api.OK
}

func (p plain) keep(s api.Spot, v api.Word) api.Errno {
	_, there := p.passing[s]
	switch {
	case v == api.Word{}:
		delete(p.passing, s)
	case !there && len(p.passing) >= limit:
		return api.ErrFull
	default:
		p.passing[s] = v
	}
	return api.OK
}

// access is the access that p is.
func (p plain) access() api.Access {
	x := api.Access{Addrs: slices.Sorted(maps.Keys(p.addrs)), Spots: inOrder(slices.Collect(maps.Keys(p.spots)))}
	for _, s := range inOrder(slices.Collect(maps.Keys(p.passing))) {
		x.Passing = append(x.Passing, holding(s, p.passing[s]))
	}
	return x
}

// plainOf is what x is as maps.
func plainOf(x api.Access) plain {
	p := plain{map[api.Addr]struct{}{}, map[api.Spot]struct{}{}, map[api.Spot]api.Word{}}
	for _, a := range x.Addrs {
		p.addrs[a] = struct{}{}
	}
	for _, s := range x.Spots {
		p.spots[s] = struct{}{}
	}
	for _, q := range x.Passing {
		p.passing[q.Spot] = q.Val
	}
	return p
}

// dice tells numbers by a fixed rule.
type dice struct{ seed uint64 }

func (d *dice) below(n int) int {
	d.seed = d.seed*6364136223846793005 + 1442695040888963407
	return int((d.seed >> 33) % uint64(n))
}

// addr is an address of a few; key a word of a few, of each of its limbs.
func (d *dice) addr() api.Addr {
	return []api.Addr{0, 1, 15, 16, 17, 20, 21, 400, 1 << 63, greatest}[d.below(10)]
}

func (d *dice) key() api.Word {
	key := w([]uint64{0, 1, 5, 7, 399, maxUint}[d.below(6)])
	if d.below(3) == 0 {
		key[d.below(4)] = []uint64{0, 1, maxUint}[d.below(3)]
	}
	return key
}

// begun is an access to begin with: nothing, or nearly as much of each as may be.
func (d *dice) begun() api.Access {
	if d.below(2) == 0 {
		return api.Access{}
	}
	return api.Access{Addrs: run(20, limit-d.below(6)), Spots: keys(20, limit-d.below(9)), Passing: held(keys(20, limit-d.below(9)))}
}

// does one call on x and on p, anything at all, and holds what comes against one another.
func (d *dice) does(t *testing.T, x api.Access, p plain) (api.Access, api.Errno) {
	a, s := d.addr(), at(d.addr(), d.key())
	was := copied(x)
	var have api.Access
	var cold, wantCold bool
	var err, want api.Errno
	name := "Keep"
	switch d.below(3) {
	case 0:
		name = "Touch"
		have, cold, err = access.Touch(x, a)
		wantCold, want = add(p.addrs, a)
	case 1:
		name = "Reach"
		have, cold, err = access.Reach(x, s)
		wantCold, want = add(p.spots, s)
	default:
		v := w(uint64(d.below(3)))
		have, err = access.Keep(x, s, v)
		want = p.keep(s, v)
	}
	switch {
	case err != want || cold != wantCold || !equal(x, was):
		t.Fatalf("%s of %d, of %v: %v, %d; should be %v, %d", name, a, s, cold, err, wantCold, want)
	case err != api.OK:
		refused(t, name, have, cold, err, want)
		return x, err
	case !equal(have, p.access()) || !access.Same(have, p.access()) || access.Check(have) != api.OK:
		t.Fatalf("%s of %d, of %v: %v; should be %v", name, a, s, have, p.access())
	}
	return have, err
}

// P9.5, and all calls one behind the other: held against plain accesses, in which each address and each slot is apart.
func TestAgainstPlain(t *testing.T) {
	fine, refusals := 0, 0
	for seed := range uint64(40) {
		d := &dice{seed}
		x := d.begun()
		p := plainOf(x)
		for range 200 {
			next, err := d.does(t, x, p)
			if fine++; err != api.OK {
				refusals++
			}
			x = next
			a, s := d.addr(), at(d.addr(), d.key())
			if _, warm := p.addrs[a]; access.Warm(x, a) != warm {
				t.Fatalf("Warm(%d): %v; of %v", a, !warm, x)
			}
			if have := access.Load(x, s); have != p.passing[s] {
				t.Fatalf("Load(%v): %v; should be %v", s, have, p.passing[s])
			}
		}
	}
	if refusals < 500 || fine-refusals < 500 {
		t.Errorf("%d calls, of which %d are refused: too few", fine, refusals)
	}
}

// P9.5: what is warm stays warm, whatever else is done; touched again and again it is cold but once.
func TestColdOnce(t *testing.T) {
	x, err := access.New(77)
	if err != api.OK {
		t.Fatal(err)
	}
	addrs, spots := map[api.Addr]int{}, map[api.Spot]int{}
	d := &dice{9}
	for range 600 {
		a, s := d.addr(), at(d.addr(), d.key())
		next, coldAddr, errAddr := access.Touch(x, a)
		next, coldSpot, errSpot := access.Reach(next, s)
		next, errKeep := access.Keep(next, s, w(uint64(d.below(2))))
		if errAddr != api.OK || errSpot != api.OK || errKeep != api.OK {
			t.Fatal(errAddr, errSpot, errKeep)
		}
		for _, b := range append(x.Addrs, a) {
			if !access.Warm(next, b) {
				t.Fatalf("%d is not warm any more", b)
			}
		}
		for _, old := range append(x.Spots, s) {
			if _, cold, _ := access.Reach(next, old); cold {
				t.Fatalf("%v is not warm any more", old)
			}
		}
		if coldAddr {
			addrs[a]++
		}
		if coldSpot {
			spots[s]++
		}
		x = next
	}
	if len(addrs) != len(x.Addrs)-1 || len(spots) != len(x.Spots) {
		t.Errorf("%d, %d were cold once; %v are warm", len(addrs), len(spots), x)
	}
	for a, n := range addrs {
		if n != 1 {
			t.Errorf("%d was cold %d times", a, n)
		}
	}
	for s, n := range spots {
		if n != 1 {
			t.Errorf("%v was cold %d times", s, n)
		}
	}
}

// P9.5: Load behind Keep is what was kept; all other transient slots stay, of the same address and of the same key, too; and what is warm stays.
func TestOthersStay(t *testing.T) {
	x := api.Access{Addrs: []api.Addr{20}, Spots: []api.Spot{at(20, w(0))}}
	var spots []api.Spot
	for _, a := range []api.Addr{0, 19, 20, 21, greatest} {
		for _, key := range []api.Word{w(0), w(1), {0, 1}, {0, 0, 1}, {0, 0, 0, 1}, most()} {
			spots = append(spots, at(a, key))
		}
	}
	by := map[api.Spot]api.Word{}
	for round, v := range []api.Word{w(1), most(), w(0), {3: 1}, w(2), w(0)} {
		for i := range spots {
			s := spots[(i*7+round)%len(spots)]
			next, err := access.Keep(x, s, v)
			if err != api.OK {
				t.Fatal(err)
			}
			x, by[s] = next, v
			for _, other := range spots {
				if have := access.Load(x, other); have != by[other] {
					t.Fatalf("Load(%v) behind Keep(%v: %v): %v; should be %v", other, s, v, have, by[other])
				}
			}
		}
	}
	holds(t, "all of them 0", x, api.OK, api.Access{Addrs: []api.Addr{20}, Spots: []api.Spot{at(20, w(0))}})
}

// P9.5: in whatever order things are touched, it comes to the same.
func TestOrders(t *testing.T) {
	deeds := []func(x api.Access) (api.Access, bool, api.Errno){
		func(x api.Access) (api.Access, bool, api.Errno) { return access.Touch(x, 30) },
		func(x api.Access) (api.Access, bool, api.Errno) { return access.Touch(x, 3) },
		func(x api.Access) (api.Access, bool, api.Errno) { return access.Reach(x, at(20, w(9))) },
		func(x api.Access) (api.Access, bool, api.Errno) { return access.Reach(x, at(20, api.Word{0, 1})) },
		func(x api.Access) (api.Access, bool, api.Errno) { return access.Reach(x, at(3, most())) },
		func(x api.Access) (api.Access, bool, api.Errno) {
			next, err := access.Keep(x, at(20, w(9)), w(4))
			return next, true, err
		},
		func(x api.Access) (api.Access, bool, api.Errno) {
			next, err := access.Keep(x, at(3, w(9)), w(5))
			return next, true, err
		},
	}
	want := api.Access{Addrs: []api.Addr{3, 20, 30}, Spots: []api.Spot{at(3, most()), at(20, w(9)), at(20, api.Word{0, 1})},
		Passing: []api.Passing{holding(at(3, w(9)), w(5)), holding(at(20, w(9)), w(4))}}
	for _, order := range orders(len(deeds)) {
		x, err := access.New(20)
		for _, i := range order {
			next, cold, e := deeds[i](x)
			if e != api.OK || !cold {
				t.Fatalf("%v, at %d: %v, %d", order, i, cold, e)
			}
			x = next
		}
		holds(t, "in another order", x, err, want)
	}
}

// orders are all orders of the numbers below n.
func orders(n int) [][]int {
	if n == 0 {
		return [][]int{nil}
	}
	var all [][]int
	for _, less := range orders(n - 1) {
		for place := range n {
			all = append(all, slices.Insert(slices.Clone(less), place, n-1))
		}
	}
	return all
}

// P9.5: whatever order and how often: New of addresses, and Touch of each, come to the same.
func TestNewIsTouched(t *testing.T) {
	d := &dice{3}
	for range 200 {
		var warm []api.Addr
		for range d.below(30) {
			warm = append(warm, d.addr()+api.Addr(d.below(3)))
		}
		x := api.Access{}
		for _, a := range warm {
			next, _, err := access.Touch(x, a)
			if err != api.OK {
				t.Fatal(err)
			}
			x = next
		}
		have, err := access.New(warm...)
		holds(t, "New", have, err, x)
	}
}

// mayBe tells whether the access may be, word by word as the chapter says it: each one against all ahead of it.
func mayBe(x api.Access) bool {
	ahead := func(a, b api.Spot) bool { return slices.Compare(digits(a), digits(b)) < 0 }
	for i, a := range x.Addrs {
		for _, b := range x.Addrs[:i] {
			if b >= a {
				return false
			}
		}
	}
	for i, s := range x.Spots {
		for _, r := range x.Spots[:i] {
			if !ahead(r, s) {
				return false
			}
		}
	}
	for i, p := range x.Passing {
		for _, q := range x.Passing[:i] {
			if !ahead(q.Spot, p.Spot) {
				return false
			}
		}
		if p.Val == (api.Word{}) {
			return false
		}
	}
	return len(x.Addrs) <= limit && len(x.Spots) <= limit && len(x.Passing) <= limit
}

// some is an access whose lists mostly may be; now and then something in it is anything at all.
func (d *dice) some() api.Access {
	p := plainOf(api.Access{})
	for range d.below(6) {
		add(p.addrs, d.addr())
		add(p.spots, at(d.addr(), d.key()))
		p.keep(at(d.addr(), d.key()), w(uint64(d.below(4)+1)))
	}
	x := p.access()
	if d.below(2) == 0 || len(x.Addrs) == 0 {
		return x
	}
	switch d.below(4) {
	case 0:
		x.Addrs[d.below(len(x.Addrs))] = d.addr()
	case 1:
		x.Spots[d.below(len(x.Spots))] = at(d.addr(), d.key())
	case 2:
		x.Passing[d.below(len(x.Passing))].Spot = at(d.addr(), d.key())
	default:
		x.Passing[d.below(len(x.Passing))].Val = w(uint64(d.below(2)))
	}
	return x
}

// R1: accesses that are anything at all: each call ends, and says ErrAccess just if they may not be.
func TestAnyAccess(t *testing.T) {
	d, fine := &dice{77}, 0
	for range 10000 {
		x, want := d.some(), api.ErrAccess
		if mayBe(x) {
			fine, want = fine+1, api.OK
		}
		if err := access.Check(x); err != want {
			t.Fatalf("Check of %v: %d; should be %d", x, err, want)
		}
		a, s, v := d.addr(), at(d.addr(), d.key()), w(uint64(d.below(2)))
		_, _, errTouch := access.Touch(x, a)
		_, _, errReach := access.Reach(x, s)
		_, errKeep := access.Keep(x, s, v)
		if errTouch != want || errReach != want || errKeep != want {
			t.Fatalf("%v: %d, %d, %d; should be %d", x, errTouch, errReach, errKeep, want)
		}
		warm, val := access.Warm(x, a), access.Load(x, s)
		p := plainOf(x)
		if want != api.OK {
			p = plainOf(api.Access{})
		}
		if _, has := p.addrs[a]; warm != has || val != p.passing[s] {
			t.Fatalf("%v: Warm(%d): %v; Load(%v): %v", x, a, warm, s, val)
		}
	}
	if fine < 3000 || fine > 9000 {
		t.Errorf("of 10000 accesses %d may be", fine)
	}
}
