package share_test

import (
	"fmt"
	"math"
	"slices"
	"testing"

	"catchment/api"
	"catchment/base"
	"catchment/disk"
	"catchment/leaf"
	"catchment/own"
	"catchment/share"
)

const last = math.MaxUint64

const refused api.Errno = 999 // what a free of these tests answers that does not let go

// forms are trees of no level, of one, two, three and four.
var forms = []string{"none", "1", "2", "7", "(3 3)", "(7 3 7)", "(7 7 7 7 7 7 7)", "((3 3 3) (3 3 3))", "((3 4 3) (7 3 7 5) (3 3 3))", "(((3 3 3) (3 4 3) (3 3 3)) ((3 3 7) (3 3 3) (5 3 3)))"}

// form makes a tree of a form, or one without keys.
func (x *set) form(form string) *root {
	x.t.Helper()
	if form == "none" {
		return x.plant(nil)
	}
	return x.planted(form)
}

// P16.1 to P16.3: the chapter's example.
func TestExample(t *testing.T) {
	for _, committed := range []bool{false, true} {
		x := start(t, 100)
		r := x.plant(nil)
		for key := range uint64(20) {
			x.puts(r, key+1, uint64(x.some(1)[0]))
		}
		if committed {
			x.commit()
		}
		at, e := share.Copy(x.b, r.at)
		if e != api.OK || at != r.at || x.b.Count(at) != 2 {
			t.Fatal(at, e, x.b.Count(at))
		}
		if l, e := share.Diff(x.b, r.at, at); e != api.OK || len(l) > 0 {
			t.Error(l, e)
		}
		at, many, e := share.Cut(x.b, at, 5, 9, own.Let(x.b))
		if e != api.OK || many != 5 {
			t.Fatal(many, e)
		}
		if l, e := share.Diff(x.b, r.at, at); e != api.OK || !slices.Equal(l, []uint64{5, 6, 7, 8, 9}) {
			t.Error(l, e)
		}
		if to, many, e := share.Cut(x.b, at, 9, 5, own.Let(x.b)); e != api.OK || many != 0 || to != at {
			t.Error(to, many, e)
		}
		_, less := r.has.within(5, 9)
		x.trees = append(x.trees, &root{at, less})
		x.all()
		one, two, both := x.stands(r), x.stands(x.trees[1]), x.stands(r, x.trees[1])
		if both >= one+two || both <= one {
			t.Error(one, two, both)
		}
	}
}

// R5: of no base nothing is told, whatever else is asked for.
func TestNoBase(t *testing.T) {
	x := start(t, 60)
	r := x.planted("(4 4)")
	copied := *x.b
	for _, b := range []*base.Base{nil, new(base.Base), &copied} {
		for _, at := range append([]int{0, 2, 3, r.at, 59, 60}, nowhere...) {
			if to, e := share.Copy(b, at); to != 0 || e != api.ErrNil {
				t.Error("Copy:", to, e)
			}
			for _, free := range []func(uint64) api.Errno{nil, never(t), own.Let(x.b)} {
				for _, to := range []uint64{0, 10, last} {
					if to, many, e := share.Cut(b, at, 10, to, free); to != 0 || many != 0 || e != api.ErrNil {
						t.Error("Cut:", to, many, e)
					}
				}
			}
			for _, other := range []int{0, 1, r.at, at} {
				for _, c := range [][2]int{{at, other}, {other, at}} {
					if l, e := share.Diff(b, c[0], c[1]); len(l) > 0 || e != api.ErrNil {
						t.Error("Diff:", l, e)
					}
					if l, e := share.Blocks(b, c[:]); len(l) > 0 || e != api.ErrNil {
						t.Error("Blocks:", l, e)
					}
				}
			}
		}
		for _, roots := range [][]int{nil, {}, {0}} {
			if l, e := share.Blocks(b, roots); len(l) > 0 || e != api.ErrNil {
				t.Error("Blocks:", l, e)
			}
		}
	}
	x.all()
}

// never is a free that may not be asked.
func never(t testing.TB) func(uint64) api.Errno {
	return func(val uint64) api.Errno {
		t.Error("free is asked of", val)
		return refused
	}
}

// P16.1: Copy of trees of any form, fresh and committed: the same root, counted once more, and nothing else is done.
func TestCopy(t *testing.T) {
	for _, form := range forms {
		for _, committed := range []bool{false, true} {
			x := start(t, 100)
			r := x.form(form)
			if committed {
				x.commit()
			}
			room, waits, gen := x.b.Room(), x.b.Waits(), x.b.Gen()
			before := x.counts()
			x.copies(r)
			x.copies(x.copies(r))
			if r.at != 0 {
				before[r.at] += 3
			}
			if !slices.Equal(x.counts(), before) || x.b.Room() != room || x.b.Waits() != waits || x.b.Gen() != gen {
				t.Error("Copy has done something else", form)
			}
			x.all()
			x.commit()
			x.again()
			x.all()
		}
	}
}

// counts are all blocks' counts.
func (x *set) counts() []int {
	var l []int
	for at := range x.b.Blocks() {
		l = append(l, x.b.Count(at))
	}
	return l
}

// P16.1, P16.4: a copy, and what was copied, are trees by themselves: whichever is changed, the other one is as it was.
func TestCopiesChange(t *testing.T) {
	for _, form := range forms {
		for mask := range 4 { // which is committed: the tree, the copy
			for one := range 2 {
				x := start(t, 200)
				r := x.form(form)
				if mask&1 == 1 {
					x.commit()
				}
				s := x.copies(r)
				if mask&2 == 2 {
					x.commit()
				}
				if one == 1 {
					r, s = s, r
				}
				x.puts(r, 15, uint64(x.some(1)[0]))
				x.all()
				x.puts(s, 5, 0)
				x.all()
				x.takes(r, r.has.items()[0].Key)
				x.takes(s, 5)
				x.all()
				third := x.copies(s)
				x.puts(s, 1000, 0)
				x.cuts(third, 20, 60)
				x.all()
			}
		}
	}
}

// P16.1: a node that stands below others is the root of a tree, too.
func TestCopyOfKid(t *testing.T) {
	for _, committed := range []bool{false, true} {
		x := start(t, 200)
		r := x.planted("((3 4 3) (7 3 7 5) (3 3 3))")
		if committed {
			x.commit()
		}
		kid := x.copies(&root{x.node(r, 1), r.has.kids[1]})
		low := x.copies(&root{x.node(r, 1, 2), r.has.kids[1].kids[2]})
		x.all()
		x.cuts(r, 0, last)
		x.all()
		x.puts(kid, 1, 0)
		x.takes(low, low.has.keys[0])
		x.all()
	}
}

// P16.1: a root whose count is as great as it may be, and one less.
func TestCopyOften(t *testing.T) {
	for _, form := range []string{"1", "(3 3)", "((3 3 3) (3 3 3))"} {
		for _, committed := range []bool{false, true} {
			from := func(count int) func() *set {
				return func() *set {
					x := start(t, 60)
					r := x.planted(form)
					x.upTo(r.at, count)
					if committed {
						x.commit()
					}
					return x
				}
			}
			x := from(api.MaxRef - 1)()
			r := x.trees[0]
			if at, e := share.Copy(x.b, r.at); at != r.at || e != api.OK || x.b.Count(at) != api.MaxRef {
				t.Error(at, e)
			}
			changesNothing(t, "Copy of what is referred to too often", from(api.MaxRef), func(x *set) {
				if at, e := share.Copy(x.b, x.trees[0].at); at != 0 || e != api.ErrRef {
					t.Error(at, e)
				}
			})
		}
	}
}

// wrong are blocks of a set that are no roots, and what is told of them. The set has 60 blocks.
func wrong(x *set) map[string]fault {
	l := map[string]fault{"data": {x.some(1)[0], api.ErrTree}, "noughts": {59, api.ErrTree}}
	for i, at := range x.pages() {
		l[fmt.Sprint("a page ", i)] = fault{at, api.ErrTree}
	}
	for _, at := range append([]int{1, 60, 61}, nowhere...) {
		l[fmt.Sprint("no block ", at)] = fault{at, api.ErrArg}
	}
	return l
}

// fault is a block, and what is told of it.
type fault struct {
	at  int
	err api.Errno
}

// P16.1: what is no tree's root is not copied.
func TestCopyNone(t *testing.T) {
	from := func() *set {
		x := start(t, 60)
		x.planted("(3 3)")
		x.commit()
		x.some(1)
		return x
	}
	for what, c := range wrong(from()) {
		changesNothing(t, "Copy of "+what, from, func(x *set) {
			if at, e := share.Copy(x.b, c.at); at != 0 || e != c.err {
				t.Error(what, at, e)
			}
		})
	}
	let := func() *set {
		x := from()
		x.is("Drop", own.Drop(x.b, x.trees[0].at, own.Let(x.b)), api.OK)
		return x
	}
	changesNothing(t, "Copy of what was let go", let, func(x *set) {
		if at, e := share.Copy(x.b, x.trees[0].at); at != 0 || e != api.ErrCount {
			t.Error(at, e)
		}
	})
}

// P16.1: a disk on which a leaf was written by hand where a count page stands: it is a node, and may not be referred to.
func TestCopyOfPage(t *testing.T) {
	from := func() *set {
		x := start(t, 60)
		page, e := leaf.Encode(of(0, 0))
		x.is("Encode", e, api.OK)
		x.is("Write", x.d.Write(x.pages()[1], page), api.OK)
		return x
	}
	at := start(t, 60).pages()[1]
	changesNothing(t, "Copy of a page", from, func(x *set) {
		if to, e := share.Copy(x.b, at); to != 0 || e != api.ErrArg {
			t.Error(to, e)
		}
	})
}

// down lets the power of a set's disk be gone.
func (x *set) down() {
	x.t.Helper()
	x.d.Arm(0)
	x.is("Flush", x.d.Flush(), api.ErrDown)
}

// breaks breaks the base: its disk failed in a Commit, and is well again.
func (x *set) breaks() {
	x.t.Helper()
	x.d.Arm(0)
	x.is("Commit", x.b.Commit(), api.ErrDown)
	x.is("Crash", x.d.Crash(api.Crash{Torn: -1}), api.OK)
}

// P16.1: without power a fresh root is copied, a committed one is not; a disk that is none any more tells so; a broken base copies nothing but the root 0.
func TestCopyWithoutPower(t *testing.T) {
	committed := func() *set {
		x := start(t, 60)
		x.planted("(3 3)")
		x.commit()
		x.planted("(3 3)")
		x.down()
		return x
	}
	changesNothing(t, "Copy without power", committed, func(x *set) {
		if at, e := share.Copy(x.b, x.trees[0].at); at != 0 || e != api.ErrDown {
			t.Error(at, e)
		}
		if at, e := share.Copy(x.b, 0); at != 0 || e != api.OK {
			t.Error(at, e)
		}
		for _, at := range append([]int{1, 60}, nowhere...) {
			if to, e := share.Copy(x.b, at); to != 0 || e != api.ErrArg {
				t.Error(at, to, e)
			}
		}
	})
	x := committed()
	x.copies(x.trees[1])
	*x.d = disk.Disk{}
	x.copies(x.trees[1])
	if at, e := share.Copy(x.b, x.trees[0].at); at != 0 || e != api.ErrNil {
		t.Error(at, e)
	}
	broken := func() *set {
		x := start(t, 60)
		x.planted("(3 3)")
		x.commit()
		x.planted("(3 3)")
		x.breaks()
		return x
	}
	changesNothing(t, "Copy of a broken base", broken, func(x *set) {
		for _, r := range x.trees {
			if at, e := share.Copy(x.b, r.at); at != 0 || e != api.ErrBroken {
				t.Error(at, e)
			}
		}
		if at, e := share.Copy(x.b, 0); at != 0 || e != api.OK {
			t.Error(at, e)
		}
		for what, c := range map[string]fault{"noughts": {59, api.ErrTree}, "1": {1, api.ErrArg}, "60": {60, api.ErrArg}} {
			if at, e := share.Copy(x.b, c.at); at != 0 || e != c.err {
				t.Error(what, at, e)
			}
		}
	})
}

// P16.4: copies behind a Commit, a Back, and opened anew.
func TestCopyBack(t *testing.T) {
	for _, form := range forms {
		x := start(t, 100)
		r := x.form(form)
		x.copies(r)
		x.commit()
		was := x.keep()
		x.copies(r)
		x.puts(x.copies(r), 15, 0)
		x.all()
		x.is("Back", x.b.Back(), api.OK)
		x.have(was)
		x.all()
		x.puts(x.copies(x.trees[1]), 15, 0)
		x.commit()
		x.again()
		x.all()
	}
}

// kept is what one had behind the last Commit.
type kept struct {
	trees []root
	data  []int
}

// keep notes what one has.
func (x *set) keep() kept {
	k := kept{data: slices.Clone(x.data)}
	for _, r := range x.trees {
		k.trees = append(k.trees, *r)
	}
	return k
}

// have has again what one had.
func (x *set) have(k kept) {
	x.data, x.trees = slices.Clone(k.data), nil
	for _, r := range k.trees {
		x.trees = append(x.trees, &r)
	}
}
