package share_test

import (
	"fmt"
	"slices"
	"testing"

	"catchment/api"
	"catchment/disk"
	"catchment/find"
	"catchment/own"
	"catchment/share"
	"catchment/tree"
)

// ways are how a tree may stand there: fresh, or committed; its root shared, or a node below it, or none.
const ways = 6

// stand makes a tree of a form that stands there in one of these ways.
func (x *set) stand(form string, way int) *root {
	x.t.Helper()
	r := x.form(form)
	switch {
	case way/2 == 1:
		x.copies(r)
	case way/2 == 2 && r.has.high() > 1:
		x.copies(&root{x.node(r, 1), r.has.kids[1]})
	}
	if way%2 == 1 {
		x.commit()
	}
	return r
}

// points are numbers ahead of, at, between and behind the keys of a plant.
func points(p *plant) []uint64 {
	l := []uint64{0, 5}
	items := p.items()
	for i, x := range items {
		if len(items) < 8 || i < 2 || i == len(items)/2 || i > len(items)-3 {
			l = append(l, x.Key, x.Key+5)
		}
	}
	return append(l, last-1, last)
}

// P16.2, P16.4: ranges of all kinds, out of trees of all forms: without a key, with one, with the first, the last, all, the wrong way round.
func TestCut(t *testing.T) {
	for _, form := range forms {
		for way := range ways {
			l := points(formedOr(form))
			for _, from := range l {
				for _, to := range l {
					if from > to && from != to+5 && from != last {
						continue
					}
					x := start(t, 200)
					r := x.stand(form, way)
					x.cuts(r, from, to)
					x.holds()
				}
			}
		}
	}
}

// formedOr is the plant of a form, or none.
func formedOr(form string) *plant {
	if form == "none" {
		return nil
	}
	return formed(form)
}

// P16.2, P16.4: one range out of a tree behind the other, and Diff and Blocks of all that is there, with commits between.
func TestCutOften(t *testing.T) {
	for _, form := range forms {
		for way := range ways {
			x := start(t, 300)
			r := x.stand(form, way)
			first := x.copies(r)
			for i, c := range [][2]uint64{{50, 95}, {5, 5}, {10, 10}, {200, last}, {21, 30}, {40, 20}, {0, 45}, {0, last}, {0, last}} {
				x.cuts(r, c[0], c[1])
				x.all()
				if i%3 == 2 {
					x.commit()
					x.again()
				}
			}
			if r.at != 0 {
				t.Error(r.at)
			}
			x.cuts(first, 0, last)
			x.all()
		}
	}
}

// P16.2: keys at the ends of all numbers.
func TestCutEnds(t *testing.T) {
	for _, keys := range [][]uint64{{0}, {last}, {0, last}, {0, 1, 2, 1 << 63, last - 1, last}, {last - 2, last - 1, last}} {
		for _, c := range [][2]uint64{{0, 0}, {0, last}, {1, last}, {0, last - 1}, {last, last}, {last, 0}, {last - 1, last}, {last - 1, last - 2}, {1, 0}, {1 << 63, 1 << 63}} {
			x := start(t, 100)
			r := x.plant(nil)
			data := x.some(2)
			for i, key := range keys {
				x.puts(r, key, uint64(data[i%2]))
			}
			x.cuts(r, c[0], c[1])
			x.all()
		}
	}
}

// P16.2: values that are 0 are not let go; values are free's alone, they need be no blocks.
func TestCutValues(t *testing.T) {
	x := start(t, 100)
	data := x.some(2)
	a, b := uint64(data[0]), uint64(data[1])
	for _, vals := range [][]uint64{{0}, {0, 0, 0}, {a, 0}, {0, b}, {0, b, 0, a, a, 0}, {a, 0, 0, b}} {
		r := x.plant(nil)
		for i, val := range vals {
			x.puts(r, uint64(i), val)
		}
		x.cuts(r, 0, uint64(len(vals)))
		x.all()
	}
	odd := []uint64{1, 2, 59, 60, 4096, 1<<32 + 4, last}
	r := x.plant(nil)
	for i, val := range odd {
		x.puts(r, uint64(i), val)
	}
	var got []uint64
	at, many, e := share.Cut(x.b, r.at, 0, last, func(val uint64) api.Errno {
		got = append(got, val)
		return api.OK
	})
	if at != 0 || many != len(odd) || e != api.OK || !slices.Equal(got, odd) {
		t.Error(at, many, e, got)
	}
	r.at, r.has = 0, nil
	x.all()
}

// P16.2: that there is no free is told ahead of all but that there is no base.
func TestCutNoFree(t *testing.T) {
	from := func() *set {
		x := start(t, 60)
		x.planted("(3 3)")
		x.commit()
		x.some(1)
		return x
	}
	roots := map[string]fault{"0": {}, "a tree": {at: from().trees[0].at}}
	for what, c := range wrong(from()) {
		roots[what] = c
	}
	for what, c := range roots {
		for _, ends := range [][2]uint64{{0, last}, {10, 10}, {11, 12}, {last, 0}} {
			changesNothing(t, "Cut without free of "+what, from, func(x *set) {
				if at, many, e := share.Cut(x.b, c.at, ends[0], ends[1], nil); at != 0 || many != 0 || e != api.ErrArg {
					t.Error(what, at, many, e)
				}
			})
		}
	}
	broken := func() *set { x := from(); x.breaks(); return x }
	changesNothing(t, "Cut without free", broken, func(x *set) {
		if at, many, e := share.Cut(x.b, x.trees[0].at, 0, last, nil); at != 0 || many != 0 || e != api.ErrArg {
			t.Error(at, many, e)
		}
	})
}

// P16.2: of what is no tree's root the error is told, beside the root as it was, and nothing is taken; a wrong range changes nothing of that.
func TestCutNone(t *testing.T) {
	from := func() *set {
		x := start(t, 60)
		x.planted("(3 3)")
		x.commit()
		return x
	}
	for what, c := range wrong(from()) {
		for _, ends := range [][2]uint64{{0, last}, {10, 10}, {last, 0}} {
			from := func() *set { x := from(); wrong(x); return x }
			changesNothing(t, "Cut of "+what, from, func(x *set) {
				if at, many, e := share.Cut(x.b, c.at, ends[0], ends[1], never(t)); at != c.at || many != 0 || e != c.err {
					t.Error(what, at, many, e)
				}
			})
		}
	}
}

// oneByOne is what Cut does, by its words. Of a free that panics it tells ErrArg.
func oneByOne(x *set, root int, from, to uint64, free func(uint64) api.Errno) (int, int, api.Errno) {
	many := 0
	for {
		l, e := find.Walk(x.b, root, from, to, 1)
		if e != api.OK || len(l) == 0 {
			return root, many, e
		}
		at, val, e := tree.Take(x.b, root, l[0].Key)
		if e != api.OK {
			return root, many, e
		}
		root, many = at, many+1
		if val == 0 {
			continue
		}
		if e := caught(free, val); e != api.OK {
			return root, many, e
		}
	}
}

// caught asks a free that may panic.
func caught(free func(uint64) api.Errno, val uint64) (e api.Errno) {
	defer func() {
		if recover() != nil {
			e = api.ErrArg
		}
	}()
	return free(val)
}

// sameAsOneByOne holds that Cut of a range does just what is done one by one: in what is told, in what is let go, in all that is there then, and in which block is next. It tells what was told.
func sameAsOneByOne(t testing.TB, what string, from func() *set, ends [2]uint64, free func(x *set, asked int, val uint64) api.Errno) (int, api.Errno) {
	t.Helper()
	x, y := from(), from()
	frees := func(x *set, asked *[]uint64) func(uint64) api.Errno {
		return func(val uint64) api.Errno {
			*asked = append(*asked, val)
			return free(x, len(*asked), val)
		}
	}
	var got, want []uint64
	at, many, e := share.Cut(x.b, x.trees[0].at, ends[0], ends[1], frees(x, &got))
	to, number, no := oneByOne(y, y.trees[0].at, ends[0], ends[1], frees(y, &want))
	if at != to || many != number || e != no || !slices.Equal(got, want) {
		t.Fatalf("%s: %d %d %v %v, not %d %d %v %v", what, at, many, e, got, to, number, no, want)
	}
	if x.state(true) != y.state(true) {
		t.Fatal(what, "is not what is done one by one")
	}
	return many, e
}

// lets lets a value go.
func lets(x *set, _ int, val uint64) api.Errno { return own.Let(x.b)(val) }

// P16.2: a free that fails, or panics, at the first value, at a later one, at the last one: its key is taken, all behind it stay.
func TestCutFreeFails(t *testing.T) {
	for _, form := range []string{"1", "7", "(3 3)", "((3 4 3) (7 3 7 5) (3 3 3))"} {
		for way := range ways {
			p := formed(form)
			for nth := 1; nth <= len(p.items())+1; nth++ {
				if nth > 9 && nth%8 != 0 && nth < len(p.items()) {
					continue
				}
				for _, how := range []any{refused, api.Errno(-1), api.ErrNil, "panic", 7, nil} {
					from := func() *set { x := start(t, 200); x.stand(form, way); return x }
					free := func(x *set, asked int, val uint64) api.Errno {
						if asked != nth {
							return lets(x, asked, val)
						}
						if e, ok := how.(api.Errno); ok {
							return e
						}
						panic(how)
					}
					many, e := sameAsOneByOne(t, "Cut", from, [2]uint64{0, last}, free)
					if want, ok := how.(api.Errno); nth <= len(p.items()) {
						if !ok {
							want = api.ErrArg
						}
						if many != nth || e != want {
							t.Fatal(form, nth, many, e)
						}
					} else if many != nth-1 || e != api.OK {
						t.Fatal(form, nth, many, e)
					}
				}
			}
		}
	}
}

// P16.2: the values ahead of the one that free does not let go are let go, that one is not, and is the tree's no more.
func TestCutFreeFailed(t *testing.T) {
	for _, panics := range []bool{false, true} {
		x := start(t, 100)
		r := x.planted("(4 4)")
		s := x.copies(r)
		let, asked := own.Let(x.b), 0
		at, many, e := share.Cut(x.b, r.at, 20, 70, func(val uint64) api.Errno {
			if asked++; asked < 3 {
				return let(val)
			}
			if panics {
				panic("no")
			}
			return refused
		})
		if many != 3 || e == api.OK {
			t.Fatal(at, many, e)
		}
		val, _ := r.has.get(40)
		r.at = at
		_, r.has = r.has.within(20, 40)
		x.back(val) // it is one's own
		x.all()
		x.cuts(s, 0, last)
		x.all()
	}
}

// P16.2: a Cut that lacks room, at its first key and at later ones: what was taken by then stays so.
func TestCutRoom(t *testing.T) {
	told := map[string]int{}
	for _, form := range []string{"7", "(3 3)", "(7 3 7)", "((3 4 3) (7 3 7 5) (3 3 3))"} {
		for way := range ways {
			for room := range 14 {
				from := func() *set {
					x := start(t, 200)
					x.stand(form, way)
					x.fill(room)
					return x
				}
				many, e := sameAsOneByOne(t, "Cut", from, [2]uint64{0, last}, lets)
				told[fmt.Sprint(e, " ", min(many, 1))]++
				if first := 2*formed(form).high() + 2; (many == 0) != (room < first) || many == 0 && e != api.ErrSpace {
					t.Error(form, room, many, e)
				}
				x := from()
				r := x.trees[0]
				at, many, e := share.Cut(x.b, r.at, 0, last, own.Let(x.b))
				for _, item := range r.has.items()[:many] {
					r.has = r.has.take(item.Key)
				}
				r.at = at
				x.all()
			}
		}
	}
	for _, what := range []string{"90 0", "90 1", "0 1"} {
		if told[what] < 10 {
			t.Error(what, "is told too seldom:", told)
		}
	}
}

// P16.2: a Cut of which a later key may not be taken, as what has to be copied refers to what is referred to too often.
func TestCutRef(t *testing.T) {
	for which := range 10 {
		for _, committed := range []bool{false, true} {
			from := func() *set {
				x := start(t, 100)
				p := formed("(3 3 4)")
				val := uint64(x.some(1)[0])
				leaf := p.kids[min(which/3, 2)]
				leaf.vals[which-3*min(which/3, 2)] = val
				r := x.plant(p)
				x.copies(r)
				x.upTo(int(val), api.MaxRef-15)
				if committed {
					x.commit()
				}
				return x
			}
			many, e := sameAsOneByOne(t, "Cut", from, [2]uint64{0, last}, lets)
			if e != api.ErrRef || many > which {
				t.Error(which, many, e)
			}
		}
	}
}

// P16.2: frees that do something to the tree, or to the base: each Cut ends, and does what is done one by one.
func TestCutOddFrees(t *testing.T) {
	from := func() *set {
		x := start(t, 100)
		x.planted("(4 4)")
		x.commit()
		x.planted("(3 3)")
		return x
	}
	for what, free := range map[string]func(x *set, asked int, val uint64) api.Errno{
		"Back":   func(x *set, _ int, _ uint64) api.Errno { return x.b.Back() },
		"Commit": func(x *set, _ int, _ uint64) api.Errno { return x.b.Commit() },
		"the other tree is dropped": func(x *set, asked int, _ uint64) api.Errno {
			if asked > 1 {
				return api.OK
			}
			return own.Drop(x.b, x.trees[1].at, own.Let(x.b))
		},
		"no power": func(x *set, _ int, val uint64) api.Errno {
			x.d.Arm(0)
			x.d.Flush()
			return own.Let(x.b)(val)
		},
		"broken": func(x *set, asked int, val uint64) api.Errno {
			x.d.Arm(0)
			x.b.Commit()
			return api.OK
		},
		"no disk": func(x *set, _ int, _ uint64) api.Errno { *x.d = disk.Disk{}; return api.OK },
	} {
		sameAsOneByOne(t, what, from, [2]uint64{0, last}, free)
		sameAsOneByOne(t, what, from, [2]uint64{20, 60}, free)
	}
}

// P16.2, R1: a free that puts keys anew into a tree that is one's own: Cut takes what is ahead of it, and ends even if there is always more.
func TestCutWithoutEnd(t *testing.T) {
	for what, c := range map[string]struct {
		by         int // how far behind the last one that was taken the next key is
		to         uint64
		left, many int
		want       api.Errno
	}{
		"the same key":             {0, last, 2, 1, api.OK},
		"one ahead":                {-1, last, 2, 1, api.OK},
		"one behind":               {1, last, 2, 4096 * 7, api.ErrArg},
		"one behind, up to 500":    {1, 500, 2, 491, api.OK},
		"one far behind, up to 20": {11, 20, 2, 1, api.OK},
		"beyond all numbers":       {last >> 1, last, 2, 2, api.OK},
	} {
		x := start(t, 60)
		at := x.put(of(5, 0)) // the keys 10 and 20
		at, _, e := tree.Take(x.b, at, 20)
		x.is("Take", e, api.OK)
		at, _, _, e = tree.Put(x.b, at, 0, 0)
		x.is("Put", e, api.OK)
		key := uint64(10)
		to, many, e := share.Cut(x.b, at, 1, c.to, func(val uint64) api.Errno {
			key += uint64(c.by)
			to, _, _, e := tree.Put(x.b, at, key, 5)
			if to != at || e != api.OK {
				t.Fatal(what, to, e)
			}
			return api.OK
		})
		if n, no := find.Node(x.b, to); to != at || many != c.many || e != c.want || no != api.OK || len(n.Keys) != c.left {
			t.Error(what, to, many, e, n)
		}
	}
}

// P16.2: a leaf, or another node, that can't be read: what is ahead of it is taken, and stays so.
func TestCutUnreadable(t *testing.T) {
	told := map[api.Errno]int{}
	for _, form := range []string{"(3 3)", "(7 3 7)", "((3 4 3) (7 3 7 5) (3 3 3))"} {
		for _, kid := range [][]int{nil, {0}, {1}, {-1}, {0, 0}, {0, 1}, {1, 0}, {2, 2}} {
			if kid != nil && kid[0] < 0 {
				kid = []int{len(formed(form).kids) - 1}
			}
			if len(kid) >= formed(form).high() || len(kid) > 0 && kid[0] >= len(formed(form).kids) {
				continue
			}
			from := func() *set {
				x := start(t, 200)
				r := x.planted(form)
				x.commit()
				x.is("Write", x.d.Write(x.node(r, kid...), make([]byte, api.Block)), api.OK)
				return x
			}
			for _, ends := range [][2]uint64{{0, last}, {20, last}, {0, 30}, {10, 10}, {45, 45}, {180, last}} {
				many, e := sameAsOneByOne(t, fmt.Sprint(form, kid), from, ends, lets)
				if told[e]++; kid == nil && (many != 0 || e != api.ErrTree) {
					t.Error(form, many, e)
				}
			}
		}
	}
	if told[api.OK] < 10 || told[api.ErrTree] < 20 || len(told) != 2 {
		t.Error(told)
	}
}

// P16.2: without power what is fresh is cut as ever; a tree that was committed tells the disk's error; a broken base takes nothing, and tells so where there is something to be taken.
func TestCutWithoutPower(t *testing.T) {
	from := func() *set {
		x := start(t, 100)
		x.planted("(4 4)")
		x.commit()
		x.planted("((3 4 3) (3 3 3))")
		x.down()
		return x
	}
	changesNothing(t, "Cut without power", from, func(x *set) {
		for _, ends := range [][2]uint64{{0, last}, {11, 12}, {last, 0}} {
			if at, many, e := share.Cut(x.b, x.trees[0].at, ends[0], ends[1], never(t)); at != x.trees[0].at || many != 0 || e != api.ErrDown {
				t.Error(at, many, e)
			}
		}
	})
	x := from()
	at, many, e := share.Cut(x.b, x.trees[1].at, 20, 150, own.Let(x.b))
	_, less := x.trees[1].has.within(20, 150)
	if x.reads(at, less); many != 14 || e != api.OK {
		t.Error(many, e)
	}
	*x.d = disk.Disk{}
	if at, many, e := share.Cut(x.b, x.trees[0].at, 0, last, never(t)); at != x.trees[0].at || many != 0 || e != api.ErrNil {
		t.Error(at, many, e)
	}
	if at, many, e = share.Cut(x.b, at, 0, last, own.Let(x.b)); at != 0 || many != 5 || e != api.OK {
		t.Error(at, many, e)
	}
	for _, form := range forms {
		from := func() *set { x := start(t, 100); x.form(form); x.some(1); x.breaks(); return x }
		changesNothing(t, "Cut of a broken base", from, func(x *set) {
			want := api.ErrBroken
			if form == "none" {
				want = api.OK
			}
			root := x.trees[0].at
			if at, many, e := share.Cut(x.b, root, 0, last, never(t)); at != root || many != 0 || e != want {
				t.Error(form, at, many, e)
			}
			if at, many, e := share.Cut(x.b, root, 11, 12, never(t)); at != root || many != 0 || e != api.OK {
				t.Error(form, at, many, e)
			}
		})
	}
}
