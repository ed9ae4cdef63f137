package share_test

import (
	"fmt"
	"slices"
	"testing"

	"catchment/api"
	"catchment/disk"
	"catchment/find"
	"catchment/share"
)

// P16.3: trees that are none, or the same.
func TestDiffNone(t *testing.T) {
	for _, form := range forms {
		for way := range ways {
			x := start(t, 200)
			r := x.stand(form, way)
			x.differs(r, r)
			x.differs(r, x.copies(r))
			x.differs(r, &root{0, nil})
			if l, e := share.Diff(x.b, 0, 0); len(l) > 0 || e != api.OK {
				t.Error(l, e)
			}
			x.all()
		}
	}
}

// P16.3, P16.4: a tree and its copy, changed in one key, in whichever way: just that one is told.
func TestDiffOneKey(t *testing.T) {
	for _, form := range forms[1:] {
		for way := range ways {
			x := start(t, 400)
			r := x.stand(form, way)
			other := uint64(x.some(1)[0])
			for _, key := range points(r.has) {
				for _, val := range []uint64{0, other} {
					s := x.copies(r)
					x.puts(s, key, val)
					if l, e := share.Diff(x.b, r.at, s.at); e != api.OK || !slices.Equal(l, []uint64{key}) {
						t.Fatal(form, key, l, e)
					}
					x.differs(r, s)
					x.cuts(s, key, key)
					x.differs(r, s)
					x.stands(r, s)
					x.gone(s)
				}
			}
			x.all()
		}
	}
}

// gone lets a tree go, all of whose keys are taken.
func (x *set) gone(r *root) {
	x.t.Helper()
	x.cuts(r, 0, last)
	x.trees = slices.DeleteFunc(x.trees, func(s *root) bool { return s == r })
}

// P16.3, P16.4: a tree and its copy, in which many keys are changed: put, taken, of another value, and back again.
func TestDiffManyKeys(t *testing.T) {
	for _, form := range forms {
		for way := range ways {
			for step := 1; step < 6; step++ {
				x := start(t, 400)
				r := x.stand(form, way)
				s := x.copies(r)
				other := uint64(x.some(1)[0])
				for i, item := range r.has.items() {
					switch {
					case i%step > 0:
					case i%3 == 0:
						x.takes(s, item.Key)
					case i%3 == 1:
						x.puts(s, item.Key, other)
					case i%3 == 2:
						x.puts(s, item.Key+5, other)
					}
				}
				x.all()
				for i, item := range r.has.items() {
					if i%step == 0 {
						x.puts(s, item.Key, item.Val)
					}
				}
				x.all()
				x.cuts(s, 0, last)
				x.all()
			}
		}
	}
}

// P16.3: trees of the same items, that share no node, and have other forms.
func TestDiffForms(t *testing.T) {
	for _, l := range [][]string{
		{"7", "(3 4)", "(4 3)"},
		{"(7 7 7)", "((3 3 3) (3 3 3 3))", "(3 3 3 3 3 3 3)", "(4 3 4 3 7)"},
		{"((7 7 7) (7 7 7) (7 7 7))", "(((3 3 3) (3 3 3) (3 3 3)) ((3 3 3) (3 3 3) (3 3 3 3 3 3)))"},
		{"1", "2", "7", "(3 3)", "(7 7)", "((3 3 3) (3 3 3))", "((3 3 3) (3 3 7))", "(((3 3 3) (3 3 3) (3 3 3)) ((3 3 3) (3 3 3) (3 3 3)))"},
	} {
		for mask := range 4 {
			x := start(t, 400)
			data := x.some(3)
			var all []*root
			for i, form := range l {
				p := formed(form)
				x.valued(p, data)
				all = append(all, x.plant(p))
				if i%2 == mask&1 && mask > 1 {
					x.commit()
				}
			}
			x.all()
			x.takes(all[0], 10)
			x.puts(all[1], 20, 0)
			x.puts(all[1], last, 0)
			x.puts(all[0], 20, uint64(data[0]))
			x.all()
		}
	}
}

// over puts a node over some nodes of trees, each of which it shares: a tree more.
func (x *set) over(l ...*root) *root {
	x.t.Helper()
	p, n := &plant{}, api.Node{}
	for _, r := range l {
		x.up(r.at)
		n.Keys, n.Vals = append(n.Keys, r.has.keys[0]), append(n.Vals, uint64(r.at))
		p.keys, p.kids = append(p.keys, r.has.keys[0]), append(p.kids, r.has)
	}
	r := &root{x.put(n), p}
	x.trees = append(x.trees, r)
	return r
}

// kid is a node of a tree, as the root of one.
func (x *set) kid(r *root, way ...int) *root {
	x.t.Helper()
	p := r.has
	for _, i := range way {
		p = p.kids[i]
	}
	return &root{x.node(r, way...), p}
}

// woven has trees of two levels, of three and of four, that have nodes of one another: at one level, and as a root and below another one.
func woven(x *set) []*root {
	six := x.planted("(3 3 3 7 3 3)")
	kid := func(i int) *root { return x.kid(six, i) }
	extra := x.kid(x.plant(&plant{keys: []uint64{300, 310, 320}, vals: []uint64{0, 0, uint64(x.data[0])}}))
	low := x.over(kid(0), kid(1), kid(2))
	high := x.over(kid(3), kid(4), kid(5))
	more := x.over(kid(3), kid(4), kid(5), extra)
	end := x.plant(raised(formed("(3 3 3)"), 500))
	three := x.over(low, high, end)
	also := x.over(low, more, end)
	far := x.plant(raised(formed("((3 3 3) (7 3 3) (3 3 3))"), 1000))
	four := x.over(three, far)
	x.over(also, x.plant(raised(formed("((3 3 3) (3 3 3) (3 3 3))"), 1000)))
	x.over(kid(0), kid(2), kid(4))
	x.copies(kid(3))
	return []*root{six, low, high, more, three, also, far, four}
}

// raised is a plant whose keys are all greater by a number.
func raised(p *plant, by uint64) *plant {
	n := &plant{vals: p.vals}
	for _, key := range p.keys {
		n.keys = append(n.keys, key+by)
	}
	for _, kid := range p.kids {
		n.kids = append(n.kids, raised(kid, by))
	}
	return n
}

// P16.3: trees that share some of their nodes, also where these are as many levels above the leaves, but not below the root.
func TestDiffWoven(t *testing.T) {
	for _, committed := range []bool{false, true} {
		x := start(t, 300)
		woven(x)
		if committed {
			x.commit()
		}
		x.all()
	}
}

// noughts lets a block that was committed have noughts, and tells what it had.
func (x *set) noughts(at int) []byte {
	x.t.Helper()
	was, e := x.b.Read(at)
	x.is("Read", e, api.OK)
	x.is("Write", x.d.Write(at, make([]byte, api.Block)), api.OK)
	return was
}

// first are the blocks that lead to a tree's first leaf.
func (x *set) first(at int) []int {
	x.t.Helper()
	var l []int
	for at != 0 {
		l = append(l, at)
		n, e := find.Node(x.b, at)
		x.is("Node", e, api.OK)
		if at = 0; !n.Leaf {
			at = int(n.Vals[0])
		}
	}
	return l
}

// P16.3: each node of two trees, if it can't be read: what stands at one block in both need not be, all else is told as ErrTree. (Of trees of other heights it may be told of what leads to a first leaf, too.)
func TestDiffUnread(t *testing.T) {
	x := start(t, 300)
	woven(x)
	x.commit()
	alike, apart := 0, 0
	for _, r := range x.trees {
		for _, s := range x.trees {
			one, two := map[int]bool{}, map[int]bool{}
			x.nodes(r.at, one)
			x.nodes(s.at, two)
			want := differ(r.has, s.has)
			firsts := slices.Concat(x.first(r.at), x.first(s.at))
			for at := range x.b.Blocks() {
				if !one[at] && !two[at] {
					continue
				}
				was := x.noughts(at)
				l, e := share.Diff(x.b, r.at, s.at)
				switch {
				case one[at] != two[at]:
					apart++
					if len(l) > 0 || e != api.ErrTree {
						t.Error("Diff of what can't be read:", l, e)
					}
				case e == api.ErrTree && len(l) == 0 && r.has.high() != s.has.high() && slices.Contains(firsts, at):
				case e != api.OK || !slices.Equal(l, want):
					t.Error("Diff with what need not be read:", r.has.form(), s.has.form(), l, e)
				default:
					alike++
				}
				x.is("Write", x.d.Write(at, was), api.OK)
			}
		}
	}
	x.all()
	if alike < 300 || apart < 1000 {
		t.Error(alike, apart)
	}
}

// P16.3: trees of the same height, or of two heights, whose ways are fresh, while all that they share is on a disk without power.
func TestDiffWithoutPower(t *testing.T) {
	for _, form := range forms[1:] {
		x := start(t, 300)
		r := x.planted(form)
		x.commit()
		keys := r.has.items()
		s, u := x.copies(r), x.copies(r)
		x.puts(s, keys[max(len(keys)-2, 0)].Key, 0)
		x.puts(u, keys[len(keys)-1].Key, 0) // in the same leaf
		x.down()
		for _, c := range [][2]*root{{s, u}, {u, s}, {s, s}, {r, r}} {
			want := differ(c[0].has, c[1].has)
			if l, e := share.Diff(x.b, c[0].at, c[1].at); e != api.OK || !slices.Equal(l, want) {
				t.Error(form, l, e, want)
			}
		}
		for _, c := range [][2]*root{{s, r}, {r, u}, {r, {}}, {{}, r}} {
			if l, e := share.Diff(x.b, c[0].at, c[1].at); e != api.ErrDown || len(l) > 0 {
				t.Error(form, l, e)
			}
		}
		*x.d = disk.Disk{}
		x.differs(s, u)
		if l, e := share.Diff(x.b, r.at, u.at); e != api.ErrNil || len(l) > 0 {
			t.Error(form, l, e)
		}
	}
}

// P16.3: roots that are none, as the one, as the other one; both are the same.
func TestDiffWrong(t *testing.T) {
	from := func() *set {
		x := start(t, 60)
		x.planted("(3 3)")
		x.commit()
		x.planted("(4 4)")
		wrong(x)
		return x
	}
	x := from()
	all := wrong(start(t, 60))
	for what := range all {
		if what == "data" {
			all[what] = fault{x.data[len(x.data)-1], api.ErrTree}
		}
	}
	for i, at := range x.pages() {
		all[fmt.Sprint("a page ", i)] = fault{at, api.ErrTree}
	}
	for what, c := range all {
		changesNothing(t, "Diff of "+what, from, func(x *set) {
			for _, other := range []int{0, x.trees[0].at, x.trees[1].at} {
				for _, both := range [][2]int{{other, c.at}, {c.at, other}} {
					if l, e := share.Diff(x.b, both[0], both[1]); len(l) > 0 || e != c.err {
						t.Error("Diff of", what, l, e)
					}
				}
			}
			l, e := share.Diff(x.b, c.at, c.at)
			if want := c.err; len(l) > 0 || e != want && (want == api.ErrArg || e != api.OK) {
				t.Error("Diff of twice", what, l, e)
			}
			for other, d := range all { // of several errors the one named first counts
				if l, e := share.Diff(x.b, c.at, d.at); len(l) > 0 || c.at != d.at && e != min(c.err, d.err) {
					t.Error("Diff of", what, "and", other, l, e)
				}
			}
		})
	}
}

// P16.3: of several errors the one named first counts: that of a root that is no block, that of the disk, ErrTree; whichever tree it is of, and however far down.
func TestErrorsInOrder(t *testing.T) {
	x := start(t, 100)
	down := x.planted("(3 3)").at // it can't be read
	x.commit()
	fresh := x.planted("(3 3)").at
	data := x.some(1)[0]
	deep := x.put(kids(x.put(kids(fresh, down)), fresh))
	bad := x.put(kids(data, fresh))
	high := chain(x, 9)[0]
	x.down()
	for _, c := range []struct {
		one, two int
		want     api.Errno
	}{
		{data, down, api.ErrDown}, {data, deep, api.ErrDown}, {bad, down, api.ErrDown}, {bad, deep, api.ErrDown}, {down, deep, api.ErrDown},
		{data, 1, api.ErrArg}, {down, 100, api.ErrArg}, {deep, -1, api.ErrArg}, {bad, 4096, api.ErrArg},
		{high, 1, api.ErrArg}, {high, down, api.ErrDown}, {high, deep, api.ErrDown}, {high, fresh, api.ErrTree}, {high, 0, api.ErrTree},
		{bad, data, api.ErrTree}, {fresh, data, api.ErrTree}, {fresh, bad, api.ErrTree}, {data, 0, api.ErrTree}, {fresh, down, api.ErrDown}, {fresh, deep, api.ErrDown},
	} {
		for _, both := range [][2]int{{c.one, c.two}, {c.two, c.one}} {
			if l, e := share.Diff(x.b, both[0], both[1]); len(l) > 0 || e != c.want {
				t.Error("Diff", both, l, e)
			}
			if l, e := share.Blocks(x.b, both[:]); len(l) > 0 || e != c.want {
				t.Error("Blocks", both, l, e)
			}
			if l, e := share.Blocks(x.b, []int{fresh, both[0], 0, both[1], fresh}); len(l) > 0 || e != c.want {
				t.Error("Blocks", both, l, e)
			}
		}
	}
	*x.d = disk.Disk{}
	for _, both := range [][2]int{{down, 1}, {1, down}, {60, down}} {
		want := api.ErrArg
		if both[0] == 60 {
			want = api.ErrNil
		}
		if l, e := share.Diff(x.b, both[0], both[1]); len(l) > 0 || e != want {
			t.Error("Diff", both, l, e)
		}
		if l, e := share.Blocks(x.b, both[:]); len(l) > 0 || e != want {
			t.Error("Blocks", both, l, e)
		}
	}
}

// P16.3: keys and values at the ends of all numbers; what differs in a few bits.
func TestDiffOddItems(t *testing.T) {
	x := start(t, 100)
	odd := []uint64{0, 1, 2, 4095, 4096, 1 << 32, 1<<32 + 1, 1 << 63, 1<<63 + 1, last - 1, last}
	for _, key := range odd {
		for _, val := range odd {
			for _, other := range odd {
				one := x.put(api.Node{Leaf: true, Keys: []uint64{key}, Vals: []uint64{val}})
				two := x.put(api.Node{Leaf: true, Keys: []uint64{key}, Vals: []uint64{other}})
				l, e := share.Diff(x.b, one, two)
				if e != api.OK || (len(l) == 0) != (val == other) || len(l) > 0 && !slices.Equal(l, []uint64{key}) {
					t.Fatal(key, val, other, l, e)
				}
				x.is("Down", x.b.Down(one), api.OK)
				x.is("Down", x.b.Down(two), api.OK)
			}
		}
	}
	one := x.put(api.Node{Leaf: true, Keys: odd[:7], Vals: odd[:7]})
	two := x.put(api.Node{Leaf: true, Keys: odd[4:], Vals: odd[4:]})
	if l, e := share.Diff(x.b, one, two); e != api.OK || !slices.Equal(l, []uint64{0, 1, 2, 4095, 1 << 63, 1<<63 + 1, last - 1, last}) {
		t.Error(l, e)
	}
}

// P16.3: broken bases tell what stands there, as any other ones; nothing changes by either call.
func TestDiffBlocksChangeNothing(t *testing.T) {
	for _, how := range []string{"fresh", "committed", "broken"} {
		from := func() *set {
			x := start(t, 300)
			woven(x)
			switch how {
			case "committed":
				x.commit()
			case "broken":
				x.some(1)
				x.breaks()
			}
			return x
		}
		changesNothing(t, "Diff and Blocks", from, func(x *set) {
			for i, r := range x.trees {
				x.differs(r, x.trees[i/2])
				x.stands(r, x.trees[i/2])
			}
		})
	}
}

// R3: what is told is new each time, and the roots that are handed in stay as they are, their spare room too.
func TestHandedInAndOut(t *testing.T) {
	x := start(t, 300)
	l := woven(x)
	roots := []int{l[4].at, 0, l[0].at, l[4].at, 77, 78}
	if _, e := share.Blocks(x.b, roots[:4]); e != api.OK || !slices.Equal(roots, []int{l[4].at, 0, l[0].at, l[4].at, 77, 78}) {
		t.Error(e, roots)
	}
	one, _ := share.Blocks(x.b, roots[:4])
	two, _ := share.Blocks(x.b, roots[:4])
	a, _ := share.Diff(x.b, l[4].at, l[5].at)
	b, _ := share.Diff(x.b, l[4].at, l[5].at)
	if len(one) == 0 || len(a) == 0 {
		t.Fatal(one, a)
	}
	clear(one)
	clear(a)
	if slices.Contains(two, 0) || slices.Contains(b, 0) {
		t.Error(two, b)
	}
	x.all()
}
