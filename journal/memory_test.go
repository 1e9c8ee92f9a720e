package journal_test

import (
	"math"
	"reflect"
	"strconv"
	"strings"
	"testing"

	"sheafer/api"
	"sheafer/journal"
)

// roomy is x with lists of its own that have room behind their ends, in which something stands, all lists within lists, too.
func roomy[T any](x T) T {
	v := reflect.New(reflect.TypeOf(x)).Elem()
	widen(v, reflect.ValueOf(x))
	return v.Interface().(T)
}

// widen lays x, widened so, into v.
func widen(v, x reflect.Value) {
	switch x.Kind() {
	case reflect.Slice:
		const room = 3
		wide := reflect.MakeSlice(x.Type(), x.Len()+room, x.Len()+room)
		for i := range x.Len() {
			widen(wide.Index(i), x.Index(i))
		}
		for i := range room {
			scribble(wide.Index(x.Len() + i))
		}
		v.Set(wide.Slice(0, x.Len()))
	case reflect.Struct:
		for i := range x.NumField() {
			widen(v.Field(i), x.Field(i))
		}
	default:
		v.Set(x)
	}
}

// scribble changes each number that x holds, in the room behind the ends of its lists, too; lists stay where they are.
func scribble(v reflect.Value) {
	switch v.Kind() {
	case reflect.Slice:
		all := v.Slice(0, v.Cap())
		for i := range all.Len() {
			scribble(all.Index(i))
		}
	case reflect.Struct:
		for i := range v.NumField() {
			scribble(v.Field(i))
		}
	case reflect.Array:
		for i := range v.Len() {
			scribble(v.Index(i))
		}
	default:
		v.SetUint(v.Uint() ^ 0x5a)
	}
}

// spoil scribbles over all of x.
func spoil[T any](x *T) {
	scribble(reflect.ValueOf(x).Elem())
}

// told is all that x holds as a text, with what stands in the room behind the ends of its lists, and how much room that is.
func told[T any](x T) string {
	var b strings.Builder
	tell(&b, reflect.ValueOf(x))
	return b.String()
}

func tell(b *strings.Builder, v reflect.Value) {
	switch v.Kind() {
	case reflect.Slice:
		b.WriteString(" " + strconv.Itoa(v.Len()) + "[")
		all := v.Slice(0, v.Cap())
		for i := range all.Len() {
			tell(b, all.Index(i))
		}
		b.WriteString("]")
	case reflect.Struct:
		for i := range v.NumField() {
			tell(b, v.Field(i))
		}
	case reflect.Array:
		for i := range v.Len() {
			tell(b, v.Index(i))
		}
	default:
		b.WriteString(" " + strconv.FormatUint(v.Uint(), 16))
	}
}

// spans are where the lists of x lie in memory, with their room: from which byte on, and up to which.
func spans(x any) [][2]uintptr {
	var all [][2]uintptr
	var walk func(v reflect.Value)
	walk = func(v reflect.Value) {
		switch v.Kind() {
		case reflect.Slice:
			if v.Cap() > 0 {
				from := v.Pointer()
				all = append(all, [2]uintptr{from, from + uintptr(v.Cap())*v.Type().Elem().Size()})
			}
			for i := range v.Len() {
				walk(v.Index(i))
			}
		case reflect.Struct:
			for i := range v.NumField() {
				walk(v.Field(i))
			}
		}
	}
	walk(reflect.ValueOf(x))
	return all
}

// apart fails, if lists of what came share memory with what was handed in, or with one another.
func apart(t *testing.T, name string, have any, given ...any) {
	t.Helper()
	mine := spans(have)
	for i, a := range mine {
		for _, b := range mine[:i] {
			if a[0] < b[1] && b[0] < a[1] {
				t.Errorf("%s: two lists of what came share memory", name)
				return
			}
		}
		for _, x := range given {
			for _, b := range spans(x) {
				if a[0] < b[1] && b[0] < a[1] {
					t.Errorf("%s: what came shares memory with what was handed in", name)
					return
				}
			}
		}
	}
}

// deeds are all that may be done to a journal with five marks, by their names; each with all that it was handed besides.
func deeds() map[string]func(j api.Journal) (api.Journal, api.Errno, any) {
	all := map[string]func(j api.Journal) (api.Journal, api.Errno, any){
		"Mark": func(j api.Journal) (api.Journal, api.Errno, any) {
			next, _, err := journal.Mark(j)
			return next, err, nil
		},
		"Lay": func(j api.Journal) (api.Journal, api.Errno, any) {
			world := roomy(worldOf(9))
			next, err := journal.Lay(j, world)
			return next, err, world
		},
		"Lay of its own": func(j api.Journal) (api.Journal, api.Errno, any) {
			next, err := journal.Lay(j, j.World)
			return next, err, nil
		},
		"Lay of a mark's": func(j api.Journal) (api.Journal, api.Errno, any) {
			next, err := journal.Lay(j, j.Marks[2].World)
			return next, err, nil
		},
		"Touch": func(j api.Journal) (api.Journal, api.Errno, any) {
			x := roomy(accessOf(9))
			next, err := journal.Touch(j, x)
			return next, err, x
		},
		"Touch of its own": func(j api.Journal) (api.Journal, api.Errno, any) {
			next, err := journal.Touch(j, j.Access)
			return next, err, nil
		},
	}
	for n := range 5 {
		all["Back of "+strconv.Itoa(n)] = func(j api.Journal) (api.Journal, api.Errno, any) {
			next, err := journal.Back(j, n)
			return next, err, nil
		}
		all["Keep of "+strconv.Itoa(n)] = func(j api.Journal) (api.Journal, api.Errno, any) {
			next, err := journal.Keep(j, n)
			return next, err, nil
		}
	}
	return all
}

// R3: what is handed in stays as it is, the room behind its lists' ends, too; what comes is new memory, list by list: neither changes with the other one.
func TestNewMemory(t *testing.T) {
	shared := pointOf(3)
	for which, j := range map[string]api.Journal{
		"five marks":         roomy(marked(5)),
		"marks that are one": {Point: shared, Marks: []api.Point{shared, shared, shared, shared, shared}},
		"with all room":      {Point: pointOf(5), Marks: marked(mostMarks).Marks[:5]},
	} {
		for name, does := range deeds() {
			was, marks := told(j), len(j.Marks)
			have, err, beside := does(j)
			if err != api.OK || told(j) != was || len(j.Marks) != marks {
				t.Errorf("%s of %s: the error %d, or what was handed in is changed", name, which, err)
			}
			apart(t, name+" of "+which, have, j)
			if beside != nil {
				apart(t, name+" of "+which, have, beside)
			}
			spoil(&have)
			if told(j) != was {
				t.Errorf("%s of %s: what was handed in changes with what came", name, which)
			}
		}
	}
}

// R3: what came does not change with what was handed in.
func TestNotKept(t *testing.T) {
	for name, does := range deeds() {
		j := roomy(marked(5))
		have, err, _ := does(j)
		was := told(have)
		spoil(&j)
		if err != api.OK || told(have) != was {
			t.Errorf("%s: the error %d, or what came changes with what was handed in", name, err)
		}
	}
	world, warm := roomy(worldOf(3)), roomy([]api.Addr{9, 3, 9})
	wasWorld, wasWarm := told(world), told(warm)
	have, err := journal.New(world, warm...)
	if err != api.OK || told(world) != wasWorld || told(warm) != wasWarm {
		t.Errorf("New: the error %d, or what was handed in is changed", err)
	}
	apart(t, "New", have, world, warm)
	was := told(have)
	spoil(&world)
	spoil(&warm)
	if told(have) != was {
		t.Error("New: what came changes with what was handed in")
	}
	laid, x := roomy(worldOf(3)), roomy(accessOf(3))
	one, errLay := journal.Lay(marked(2), laid)
	two, errTouch := journal.Touch(marked(2), x)
	wasOne, wasTwo := told(one), told(two)
	spoil(&laid)
	spoil(&x)
	if errLay != api.OK || errTouch != api.OK || told(one) != wasOne || told(two) != wasTwo {
		t.Error("Lay, Touch: what came changes with what was handed in")
	}
}

// R3: what is asked, and what is refused, changes nothing.
func TestAskedStays(t *testing.T) {
	full, other := roomy(marked(mostMarks)), roomy(marked(mostMarks))
	bad := roomy(marked(5))
	bad.Marks[4].World.Nonces[0].Next = 0
	was, wasBad := told(full), told(bad)
	badWorld, badAccess := roomy(badWorlds()["nonces: a Next of 0"]), roomy(badAccesses()["a Val of 0"])
	wasWorld, wasAccess := told(badWorld), told(badAccess)
	for _, j := range []api.Journal{full, bad} {
		journal.Check(j)
		journal.CheckWorld(j.World)
		journal.Same(j, other)
		journal.SameWorld(j.World, other.World)
		journal.Mark(j)
		journal.Back(j, mostMarks)
		journal.Keep(j, math.MinInt)
		journal.Lay(j, badWorld)
		journal.Touch(j, badAccess)
	}
	journal.New(badWorld, full.Access.Addrs...)
	if told(full) != was || told(other) != was || told(bad) != wasBad || told(badWorld) != wasWorld || told(badAccess) != wasAccess {
		t.Error("what was handed in is changed")
	}
}

// R3: a journal from which two other ones are made, each of which goes on by itself.
func TestEachByItself(t *testing.T) {
	for first, does := range deeds() {
		for second, doesToo := range deeds() {
			j := roomy(marked(5))
			was := told(j)
			one, err, _ := does(j)
			wasOne := told(one)
			two, errToo, _ := doesToo(j)
			if err != api.OK || errToo != api.OK || told(one) != wasOne || told(j) != was {
				t.Errorf("%s changes what came of %s: %d, %d", second, first, err, errToo)
			}
			apart(t, first+", "+second, one, two)
			wasTwo := told(two)
			goOn(t, one)
			if told(one) != wasOne || told(two) != wasTwo || told(j) != was {
				t.Errorf("%s goes on, and something changes with it", first)
			}
			spoil(&one)
			if told(two) != wasTwo || told(j) != was {
				t.Errorf("%s changes with %s", second, first)
			}
		}
	}
}

// goOn does to j a bit of everything, as far as its marks go.
func goOn(t *testing.T, j api.Journal) {
	t.Helper()
	next, number, err := journal.Mark(j)
	laid, errLay := journal.Lay(next, worldOf(77))
	touched, errTouch := journal.Touch(laid, accessOf(78))
	again, _, errAgain := journal.Mark(touched)
	spoil(&next)
	spoil(&laid)
	back, errBack := journal.Back(again, number)
	kept, errKeep := journal.Keep(again, number)
	if [6]api.Errno{err, errLay, errTouch, errAgain, errBack, errKeep} != [6]api.Errno{} {
		t.Error(err, errLay, errTouch, errAgain, errBack, errKeep)
	}
	holds(t, "Back of what goes on", back, errBack, j)
	holds(t, "Keep of what goes on", kept, errKeep, api.Journal{Point: api.Point{World: worldOf(77), Access: accessOf(78)}, Marks: j.Marks})
}

// R3: nil and empty lists are one, in what is handed in and in what is answered.
func TestNilAndEmpty(t *testing.T) {
	empty := api.Point{World: worlds()["nothing, and empty"], Access: accesses()["nothing, and empty"]}
	for name, j := range map[string]api.Journal{
		"nil":   {Marks: make([]api.Point, 5)},
		"empty": {Point: empty, Marks: []api.Point{empty, empty, empty, empty, empty}},
		"both":  {Point: empty, Marks: make([]api.Point, 5)},
	} {
		for n := range 5 {
			back, err := journal.Back(j, n)
			holds(t, "Back: "+name, back, err, api.Journal{Marks: make([]api.Point, n)})
			kept, err := journal.Keep(j, n)
			holds(t, "Keep: "+name, kept, err, api.Journal{Marks: make([]api.Point, n)})
			if !journal.Same(back, kept) {
				t.Errorf("%s: not the same", name)
			}
		}
		have, number, err := journal.Mark(j)
		if holds(t, "Mark: "+name, have, err, api.Journal{Marks: make([]api.Point, 6)}); number != 5 {
			t.Errorf("%s: the number %d", name, number)
		}
	}
	have, err := journal.New(empty.World, []api.Addr{}...)
	holds(t, "New of empty ones", have, err, api.Journal{})
}
