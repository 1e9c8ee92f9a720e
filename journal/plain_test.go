package journal_test

import (
	"slices"
	"testing"

	"sheafer/api"
	"sheafer/journal"
)

// kinds is how many worlds, and how many accesses, there are to choose from; those from soundKinds on may not be.
const (
	kinds      = 12
	soundKinds = 8
)

// someWorld and someAccess are the worlds and the accesses by their numbers.
func someWorld(n int) api.World {
	switch {
	case n == 0:
		return api.World{}
	case n < soundKinds:
		return worldOf(uint64(n))
	}
	return badWorlds()[[]string{"state: an empty account", "ledger: a row of nothing", "nonces: a Next of 0", "nonces: a nonce twice"}[n-soundKinds]]
}

func someAccess(n int) api.Access {
	switch {
	case n == 0:
		return api.Access{}
	case n < soundKinds:
		return accessOf(uint64(n))
	}
	return badAccesses()[[]string{"addresses that fall", "a spot twice", "a Val of 0", "one address too many"}[n-soundKinds]]
}

// spot is a point, as the numbers of its world and of its access; plain a journal, against which the package's answers are held: the spots of its marks, and, as the last one, that at which it is.
type spot struct{ world, access int }

type plain []spot

// point is the point that s is; journal the journal that p is.
func (s spot) point() api.Point {
	return api.Point{World: someWorld(s.world), Access: someAccess(s.access)}
}

func (p plain) journal() api.Journal {
	j := api.Journal{Point: p[len(p)-1].point()}
	for _, s := range p[:len(p)-1] {
		j.Marks = append(j.Marks, s.point())
	}
	return j
}

// may tells whether p may be.
func (p plain) may() bool {
	return len(p) <= mostMarks+1 && !slices.ContainsFunc(p, func(s spot) bool { return s.world >= soundKinds || s.access >= soundKinds })
}

// does one deed to p, and answers what it becomes, and the error; n is a mark's number, or that of a world, or of an access.
func (p plain) does(deed string, n int) (plain, api.Errno) {
	marks, at := p[:len(p)-1], p[len(p)-1]
	switch {
	case !p.may():
		return nil, api.ErrJournal
	case deed == "Lay":
		at.world = n
	case deed == "Touch":
		at.access = n
	case deed == "Mark":
		if len(marks) == mostMarks {
			return nil, api.ErrFull
		}
		marks = slices.Concat(marks, plain{at})
	case n < 0 || n >= len(marks):
		return nil, api.ErrNone
	case deed == "Back":
		marks, at = marks[:n], marks[n]
	default:
		marks = marks[:n]
	}
	next := slices.Concat(marks, plain{at})
	if !next.may() {
		return nil, api.ErrJournal
	}
	return next, api.OK
}

// done is the same of j, by the package; and the number that Mark told.
func done(j api.Journal, deed string, n int) (next api.Journal, number int, err api.Errno) {
	switch deed {
	case "Lay":
		next, err = journal.Lay(j, someWorld(n))
	case "Touch":
		next, err = journal.Touch(j, someAccess(n))
	case "Mark":
		next, number, err = journal.Mark(j)
	case "Back":
		next, err = journal.Back(j, n)
	default:
		next, err = journal.Keep(j, n)
	}
	return next, number, err
}

// dice tells numbers by a fixed rule.
type dice struct{ seed uint64 }

func (d *dice) below(n int) int {
	d.seed = d.seed*6364136223846793005 + 1442695040888963407
	return int((d.seed >> 33) % uint64(n))
}

// deed is a deed, and its number: mostly of a mark that is there, of a world or an access that may be.
func (d *dice) deed(marks int) (string, int) {
	deed := []string{"Mark", "Mark", "Mark", "Mark", "Lay", "Lay", "Touch", "Touch", "Back", "Keep"}[d.below(10)]
	switch {
	case deed == "Lay" || deed == "Touch":
		if d.below(8) == 0 {
			return deed, soundKinds + d.below(kinds-soundKinds)
		}
		return deed, d.below(soundKinds)
	case d.below(4) == 0:
		return deed, d.below(marks+4) - 2
	}
	return deed, max(marks-1-d.below(3), 0)
}

// pair is a journal, and the same plainly.
type pair struct {
	have api.Journal
	want plain
}

// P10.5, and all calls one behind the other: held against plain journals. Any journal that ever came goes on now and then, and all that came stay as they are.
func TestAgainstPlain(t *testing.T) {
	errs := map[api.Errno]int{}
	deepest := 0
	for seed := range uint64(60) {
		d := &dice{seed}
		all := []pair{{api.Journal{}, plain{{}}}}
		at := 0
		for range 150 {
			if d.below(25) == 0 {
				at = d.below(len(all))
			}
			from := all[at]
			deed, n := d.deed(len(from.want) - 1)
			want, wantErr := from.want.does(deed, n)
			have, number, err := done(from.have, deed, n)
			errs[err]++
			if err != wantErr {
				t.Fatalf("%s %d of %v: %d; should be %d", deed, n, from.want, err, wantErr)
			}
			if err != api.OK {
				refused(t, deed, have, err, wantErr)
				continue
			}
			if deed == "Mark" && number != len(from.want)-1 {
				t.Fatalf("Mark of %v: the number %d", from.want, number)
			}
			holds(t, deed, have, err, want.journal())
			all, at = append(all, pair{have, want}), len(all)
			deepest = max(deepest, len(want)-1)
		}
		for _, x := range all {
			holds(t, "what came long ago", x.have, api.OK, x.want.journal())
			if !journal.Same(x.have, x.want.journal()) {
				t.Fatalf("%v: not the same", x.want)
			}
		}
	}
	if deepest != mostMarks || errs[api.OK] < 1000 || errs[api.ErrFull] < 20 || errs[api.ErrNone] < 20 || errs[api.ErrJournal] < 20 {
		t.Errorf("too few of a kind: %v; at most %d marks", errs, deepest)
	}
}

// P10.5: Back to a mark all is as it was when it was made, whatever was done since behind it; Kept, all is as it is, with the marks that there were.
func TestWhateverWasDone(t *testing.T) {
	for seed := range uint64(200) {
		d := &dice{seed}
		start := plain{}
		for range d.below(mostMarks) + 1 {
			start = append(start, spot{d.below(soundKinds), d.below(soundKinds)})
		}
		was := start.journal()
		j, number, err := journal.Mark(was)
		if err != api.OK || number != len(was.Marks) {
			t.Fatal(number, err)
		}
		for range d.below(30) {
			deed, n := d.deed(len(j.Marks))
			if (deed == "Back" || deed == "Keep") && n <= number {
				continue
			}
			if next, _, err := done(j, deed, n); err == api.OK {
				j = next
			}
		}
		back, err := journal.Back(j, number)
		holds(t, "Back", back, err, was)
		kept, err := journal.Keep(j, number)
		holds(t, "Keep", kept, err, api.Journal{Point: j.Point, Marks: was.Marks})
		again, sameNumber, err := journal.Mark(back)
		if sameNumber != number {
			t.Errorf("the mark %d is made again as %d", number, sameNumber)
		}
		holds(t, "Mark, again", again, err, api.Journal{Point: was.Point, Marks: append(slices.Clone(was.Marks), was.Point)})
		twice, err := journal.Back(again, number)
		holds(t, "Back, again", twice, err, was)
	}
}

// P10.5: Back to a mark goes as well by way of marks behind it; to Keep marks from the last one on is to Keep the first one of them.
func TestStepByStep(t *testing.T) {
	for marks := range mostMarks + 1 {
		for n := range marks {
			back, kept := marked(marks), marked(marks)
			for m := marks - 1; m >= n; m-- {
				nextBack, errBack := journal.Back(back, m)
				nextKept, errKept := journal.Keep(kept, m)
				holds(t, "Back", nextBack, errBack, api.Journal{Point: pointOf(uint64(m)), Marks: marked(m).Marks})
				holds(t, "Keep", nextKept, errKept, api.Journal{Point: pointOf(uint64(marks)), Marks: marked(m).Marks})
				back, kept = nextBack, nextKept
			}
			atOnce, err := journal.Back(marked(marks), n)
			holds(t, "Back at once", atOnce, err, back)
			atOnce, err = journal.Keep(marked(marks), n)
			holds(t, "Keep at once", atOnce, err, kept)
		}
	}
}

// R1: journals that are anything at all: each call ends, and says ErrJournal just if they may not be.
func TestAnyJournal(t *testing.T) {
	d, fine := &dice{77}, 0
	for range 1500 {
		p := plain{}
		for range d.below(mostMarks+3) + 1 {
			p = append(p, spot{d.below(soundKinds), d.below(soundKinds)})
		}
		if d.below(2) == 0 {
			p[d.below(len(p))].world = d.below(kinds)
			p[d.below(len(p))].access = d.below(kinds)
		}
		want := api.ErrJournal
		if p.may() {
			fine, want = fine+1, api.OK
		}
		j := p.journal()
		if err := journal.Check(j); err != want {
			t.Fatalf("Check of %v: %d; should be %d", p, err, want)
		}
		for _, deed := range []string{"Mark", "Back", "Keep", "Lay", "Touch"} {
			for _, n := range []int{0, d.below(kinds), len(p) - 2, len(p) - 1} {
				if deed == "Lay" || deed == "Touch" {
					n = max(n, 0) % kinds
				}
				behind, wantErr := p.does(deed, n)
				have, _, err := done(j, deed, n)
				if wantErr != api.OK {
					refused(t, deed, have, err, wantErr)
					continue
				}
				holds(t, deed, have, err, behind.journal())
			}
		}
	}
	if fine < 300 || fine > 1200 {
		t.Errorf("of 1500 journals %d may be", fine)
	}
}
