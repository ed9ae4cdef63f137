package tree_test

import (
	"fmt"
	"slices"
	"strings"
	"testing"

	"catchment/api"
	"catchment/find"
	"catchment/index"
	"catchment/own"
	"catchment/tree"
)

// P15.1 to P15.3: roots at which no tree begins; nothing changes by any call.
func TestWrongRoots(t *testing.T) {
	from := func() *set {
		x := start(t, 60)
		x.some(1)
		x.planted("(4 4)")
		x.commit()
		return x
	}
	roots := map[int]api.Errno{60: api.ErrArg, 61: api.ErrArg, 59: api.ErrTree}
	for _, at := range nowhere {
		roots[at] = api.ErrArg
	}
	for _, at := range append(from().pages(), from().data...) {
		roots[at] = api.ErrTree
	}
	for root, want := range roots {
		for _, key := range []uint64{0, 10, 45, last} {
			changesNothing(t, fmt.Sprint("the root ", root), from, func(x *set) {
				x.may(fmt.Sprint("the root ", root), root, key, want)
			})
		}
	}
	x := from()
	x.fill(1)
	for root, want := range roots {
		x.may("without room, a wrong root", root, 10, want)
	}
}

// P15.1 to P15.3: a kid that is none: if it is one of the way, or of the first way, which Height goes, each call tells what find tells. If it is another one, a key may be put and taken, but not if the kid's block is free: it may be handed out.
func TestWrongKids(t *testing.T) {
	for what, want := range map[string]api.Errno{"noughts": api.ErrTree, "data": api.ErrTree, "a page": api.ErrTree, "1": api.ErrArg, "beyond": api.ErrArg} {
		for i := range 3 {
			from := func() *set {
				x := start(t, 60)
				bad := map[string]int{"noughts": 50, "data": x.some(1)[0], "a page": x.pages()[0], "1": 1, "beyond": 60}[what]
				l := []int{x.put(of(0, 0, 0, 0)), x.put(of(0, 0, 0, 0))}
				x.plant(nil).at = x.put(kids(slices.Insert(l, i, bad)...))
				return x
			}
			for way := range 3 {
				key := uint64(way*10 + 10)
				if i == 0 || i == way {
					changesNothing(t, what, from, func(x *set) { x.may(what, x.trees[0].at, key, want) })
					continue
				}
				free := what != "data" && what != "a page"
				unlessDone(t, what, from, func(x *set) api.Errno {
					_, _, _, e := tree.Put(x.b, x.trees[0].at, key, 0)
					if free != (e == api.ErrTree) || free != (e != api.OK) {
						t.Error("Put,", what, i, way, e)
					}
					return e
				})
				unlessDone(t, what, from, func(x *set) api.Errno {
					_, _, e := tree.Take(x.b, x.trees[0].at, 10)
					if free != (e == api.ErrTree) || free != (e != api.OK) {
						t.Error("Take,", what, i, way, e)
					}
					return e
				})
			}
		}
	}
}

// least is the form of the least node of so many levels that is no root.
func least(levels int) string {
	if levels == 1 {
		return "3"
	}
	return "(" + strings.Repeat(least(levels-1), 3) + ")"
}

// P15.1 to P15.4: a tree of as many levels as may be, whose root is not full.
func TestHigh(t *testing.T) {
	x := start(t, 4096)
	r := x.planted("(" + least(7) + least(7) + ")")
	if h, e := find.Height(x.b, r.at); h != 8 || e != api.OK {
		t.Fatal(h, e)
	}
	x.commit()
	l := r.has.items()
	x.puts(r, 5, uint64(x.data[0]))
	x.takes(r, l[len(l)-1].Key) // each level has one node less
	if h, e := find.Height(x.b, r.at); h != 7 || e != api.OK {
		t.Fatal(h, e)
	}
	x.commit()
	x.share(r)
	x.takes(r, l[0].Key)
	x.puts(r, l[0].Key, 0)
}

// P15.2: the same, of which all nodes of a way but three are full.
func TestHighSplit(t *testing.T) {
	form := "7"
	for levels := 2; levels < 8; levels++ {
		beside := 6
		if levels == 7 {
			beside = 2
		}
		form = "(" + form + strings.Repeat(least(levels-1), beside) + ")"
	}
	for _, room := range []int{tree.Need(8), tree.Need(8) - 1} {
		x := start(t, 4096)
		r := x.planted("(" + form + least(7) + ")")
		x.commit()
		x.fill(room)
		if room < tree.Need(8) {
			for _, key := range []uint64{0, 10, 35, last} {
				x.may("8 levels, too little room", r.at, key, api.ErrSpace)
			}
			x.holds()
			continue
		}
		x.puts(r, 35, 0)
		if !strings.HasPrefix(r.has.form(), "(((((((4 4 3 3) (3 3 3 3) (3 3 3) (3 3 3)) ((3 3 3) ") || x.b.Room() != room-8-6 {
			t.Error(r.has.form()[:60], x.b.Room())
		}
	}
}

// tall puts a tree of so many levels whose root has so many keys. Its other nodes have one kid each: so it is not right, but find goes down it.
func tall(x *set, levels, keys int) int {
	x.t.Helper()
	at := x.put(of(0, 0, 0))
	for range levels - 2 {
		at = x.put(kids(at))
	}
	l := []int{at}
	for len(l) < keys {
		l = append(l, x.put(of(0, 0, 0)))
	}
	return x.put(kids(l...))
}

// P15.1: a tree of MaxHigh levels whose root is full may not be changed, whatever key it is, and whatever room there is.
func TestHighFull(t *testing.T) {
	for _, room := range []int{100, 18, 17, 0} {
		from := func() *set {
			x := start(t, 200)
			at := tall(x, 8, 7)
			x.fill(room)
			x.plant(nil).at = at
			return x
		}
		for _, key := range []uint64{0, 10, 11, 19} {
			changesNothing(t, "a full root", from, func(x *set) { x.may("a full root", x.trees[0].at, key, api.ErrTree) })
		}
		for _, shared := range []int{1, 2} { // ahead of ErrRef
			x := from()
			n, _ := find.Node(x.b, x.trees[0].at)
			x.upTo(x.trees[0].at, shared)
			x.upTo(int(n.Vals[6]), api.MaxRef)
			x.may("a full root, and a full count", x.trees[0].at, 10, api.ErrTree)
		}
	}
	x := start(t, 200) // nine levels are none of a tree
	x.may("9 levels", tall(x, 9, 2), 10, api.ErrTree)
}

// P15.1: room that is Need of the height, and one less: it is refused, whatever key it is, but for what find tells.
func TestRoom(t *testing.T) {
	forms := []string{"none", "1", "7", "(3 3)", "(7 3 3 3 3 3 3)", "((3 3 3) (3 3 3))", "((7 3 3 3 3 3 3) (3 3 3) (3 3 3) (3 3 3) (3 3 3) (3 3 3) (3 3 3))", "(((3 3 3) (3 3 3) (3 3 3)) ((3 3 3) (3 3 3) (3 3 3)))"}
	for _, form := range forms {
		for how := range 4 {
			from := func(less int) func() *set {
				return func() *set {
					x := start(t, 300)
					var r *root
					if form == "none" {
						r = x.plant(nil)
					} else {
						r = x.planted(form)
					}
					sharedSomehow(x, r, how)
					x.fill(tree.Need(r.has.high()) - less)
					return x
				}
			}
			for _, key := range []uint64{0, 10, 15, 20, last} {
				changesNothing(t, "too little room", from(1), func(x *set) {
					x.may("too little room", x.trees[0].at, key, api.ErrSpace)
				})
				changesNothing(t, "no room", from(tree.Need(formedHigh(form))), func(x *set) {
					x.may("no room", x.trees[0].at, key, api.ErrSpace)
				})
				x := from(0)()
				x.puts(x.trees[0], key, uint64(x.data[0]))
				x = from(0)()
				x.takes(x.trees[0], key)
			}
		}
	}
}

// formedHigh is how many levels a form has.
func formedHigh(form string) int {
	if form == "none" {
		return 0
	}
	return formed(form).high()
}

// bush is a tree of three levels, with three kids each, all nodes of which are one's own; where they stand; one more key of each leaf.
func bush(x *set) (r *root, nodes map[string]int, keys map[string]uint64) {
	x.t.Helper()
	r = x.planted("((4 4 4) (4 4 4) (4 4 4))")
	nodes, keys = map[string]int{"": r.at}, map[string]uint64{}
	for i := range 3 {
		nodes[fmt.Sprint(i)] = x.node(r, i)
		for j := range 3 {
			name := fmt.Sprint(i, j)
			nodes[name] = x.node(r, i, j)
			keys[name] = r.has.kids[i].kids[j].keys[1]
		}
	}
	return r, nodes, keys
}

// asks are the nodes that are asked of a leaf's key, told by their names: each one of the way, and one beside it.
func asks(leaf string) []string {
	i, j := int(leaf[0]-'0'), int(leaf[2]-'0')
	beside := func(i int) int {
		if i == 0 {
			return 1
		}
		return i - 1
	}
	return []string{"", fmt.Sprint(i), fmt.Sprint(beside(i)), leaf, fmt.Sprint(i, beside(j))}
}

// crowds holds what May tells of each key of a bush, in which one node refers to a block with a count, whichever node is shared.
func (x *set) crowds(r *root, nodes map[string]int, keys map[string]uint64, heavy string, count int) {
	x.t.Helper()
	for shared, at := range nodes {
		x.up(at)
		for leaf, key := range keys {
			want := api.OK
			if slices.Contains(asks(leaf), heavy) && strings.HasPrefix(heavy, shared) && count > 65535-16 {
				want = api.ErrRef
			}
			for _, key := range []uint64{key, key + 5} {
				x.is(fmt.Sprintf("May of a key of %q, %q is shared, %q refers to a block with %d", leaf, shared, heavy, count), tree.May(x.b, r.at, key), want)
			}
		}
		x.is("Down", x.b.Down(at), api.OK)
	}
	for _, key := range keys { // nothing is shared, but for a kid that has so many references itself
		x.is("May", tree.May(x.b, r.at, key), api.OK)
	}
}

// P15.1: leaves that refer to a block that has almost as many references as may be: one of the way, one beside it, any other one; which are shared, or below what is.
func TestRefOfLeaves(t *testing.T) {
	x := start(t, 100)
	r, nodes, keys := bush(x)
	full := x.some(1)[0]
	for _, count := range []int{api.MaxRef - 17, api.MaxRef - 16, api.MaxRef - 15, api.MaxRef} {
		x.upTo(full, count)
		for heavy := range keys {
			was, _ := find.Node(x.b, nodes[heavy])
			for _, i := range []int{0, 2, 3} {
				n, _ := find.Node(x.b, nodes[heavy])
				n.Vals[i] = uint64(full)
				x.is("Set", own.Set(x.b, nodes[heavy], n), api.OK)
				x.crowds(r, nodes, keys, heavy, count)
				x.is("Set", own.Set(x.b, nodes[heavy], was), api.OK)
			}
		}
	}
}

// P15.1: the same of nodes that are no leaves: their kids have so many references.
func TestRefOfKids(t *testing.T) {
	for _, heavy := range []string{"", "0", "1", "2"} {
		for _, kid := range []string{"0", "2"} {
			x := start(t, 100)
			r, nodes, keys := bush(x)
			name := strings.TrimSpace(heavy + " " + kid)
			for _, count := range []int{api.MaxRef - 17, api.MaxRef - 16, api.MaxRef - 15} {
				x.upTo(nodes[name], count)
				x.crowds(r, nodes, keys, heavy, count)
			}
		}
	}
}

// P15.1: a node that is root and leaf; counts that are as great as may be hinder nothing that is not shared.
func TestRefOfRoot(t *testing.T) {
	for _, committed := range []bool{false, true} {
		for i := range 3 {
			x := start(t, 60)
			full := x.some(1)[0]
			n := of(0, 0, 0)
			n.Vals[i] = uint64(full)
			at := x.put(n)
			if committed {
				x.commit()
			}
			for _, count := range []int{api.MaxRef - 16, api.MaxRef - 15, api.MaxRef} {
				x.upTo(full, count)
				x.is("May", tree.May(x.b, at, 10), api.OK)
				x.up(at)
				want := api.OK
				if count > api.MaxRef-16 {
					want = api.ErrRef
				}
				x.is("May", tree.May(x.b, at, 10), want)
				x.is("Down", x.b.Down(at), api.OK)
			}
			at, _, was, e := tree.Put(x.b, at, 25, 0)
			if was || e != api.OK || x.b.Count(full) != api.MaxRef {
				t.Error(was, e, x.b.Count(full))
			}
			if at, _, e = tree.Take(x.b, at, 10); at == 0 || e != api.OK {
				t.Error(at, e)
			}
		}
	}
}

// P15.1, P15.2: what refers to nothing is not asked, nor what is no block.
func TestRefOfNone(t *testing.T) {
	x := start(t, 60)
	at := x.put(of(0, 1, 59, 60, 4096, 1<<32+4, last))
	x.up(at)
	x.is("May", tree.May(x.b, at, 10), api.OK)
	x = start(t, 60) // laid by hand, so that block 0 has a count
	x.plant(formed("(3 3)"))
	x.commit()
	root, counts := x.trees[0].at, make([]uint16, 60)
	for at := range counts {
		counts[at] = uint16(x.b.Count(at))
	}
	counts[0], counts[root] = api.MaxRef, 2
	page, e := index.Encode(api.PageCounts, counts)
	x.is("Encode", e, api.OK)
	x.is("Write", x.d.Write(x.pages()[1], page), api.OK)
	x.again()
	if x.b.Count(0) != api.MaxRef || x.b.Count(root) != 2 {
		t.Fatal(x.b.Count(0), x.b.Count(root))
	}
	x.is("May", tree.May(x.b, root, 10), api.OK)
	_, _, _, e = tree.Put(x.b, root, 10, 0)
	x.is("Put", e, api.OK)
}

// P15.2, P15.3: a root, and a leaf, to which as many refer as may: one reference less is left to what they were.
func TestManyRefer(t *testing.T) {
	for _, form := range []string{"3", "(3 3)"} {
		for _, taking := range []bool{false, true} {
			for _, committed := range []bool{false, true} {
				x := start(t, 60)
				r := x.plant(formed(form))
				other := &root{r.at, r.has}
				if !r.has.leaf() {
					other = &root{x.node(r, 0), r.has.kids[0]}
				}
				x.up(other.at)
				for x.trees = append(x.trees, other); x.b.Count(other.at) < api.MaxRef; {
					x.up(other.at)
					x.data = append(x.data, other.at)
				}
				if committed {
					x.commit()
				}
				if taking {
					x.takes(r, 20)
				} else {
					x.puts(r, 15, 0)
				}
				if n := x.b.Count(other.at); n != api.MaxRef-1 {
					t.Error(form, taking, committed, n)
				}
			}
		}
	}
}

// P15.1 to P15.4: a change that lets a block go up as often as one may, within what is spared for it.
func TestSpare(t *testing.T) {
	for _, form := range []string{"(3 7)", "(7 3)", "((3 7 3) (3 3 3))", "((3 3 3) (7 3 3 3 3 3 3))"} {
		for _, spare := range []int{16, 15} {
			x := start(t, 100)
			p := formed(form)
			x.valued(p, x.some(1))
			r := x.plant(p)
			x.share(r)
			x.commit()
			full := x.data[0]
			for x.b.Count(full) < api.MaxRef-spare {
				x.up(full)
				x.data = append(x.data, full)
			}
			for _, item := range p.items() {
				if spare < 16 {
					x.may("too many references", r.at, item.Key, api.ErrRef)
					continue
				}
				room, roots := x.b.Room(), *r
				x.takes(r, item.Key)
				x.is("Drop", own.Drop(x.b, r.at, own.Let(x.b)), api.OK)
				*r = roots
				x.up(r.at)
				x.holds()
				x.puts(r, item.Key+5, 0)
				x.is("Drop", own.Drop(x.b, r.at, own.Let(x.b)), api.OK)
				*r = roots
				x.up(r.at)
				if x.holds(); x.b.Room() != room {
					t.Fatal(x.b.Room(), room)
				}
			}
		}
	}
}

// P15.1 to P15.3: of several errors the one that is named first counts; beside each one nothing has changed.
func TestOrder(t *testing.T) {
	from := func(room, count int) func() *set {
		return func() *set {
			x := start(t, 100)
			full := x.some(1)[0]
			x.plant(&plant{keys: []uint64{10, 20}, vals: []uint64{uint64(full), 0}})
			x.upTo(full, count)
			x.up(x.trees[0].at)
			x.fill(room)
			return x
		}
	}
	for _, c := range []struct {
		from func() *set
		key  uint64
		want api.Errno
	}{
		{from(3, api.MaxRef), 10, api.ErrSpace},
		{from(3, api.MaxRef), 15, api.ErrSpace},
		{from(4, api.MaxRef), 10, api.ErrRef},
		{from(4, api.MaxRef), 15, api.ErrRef},
		{from(4, api.MaxRef-15), 15, api.ErrRef},
	} {
		changesNothing(t, "a refusal", c.from, func(x *set) { x.may("a refusal", x.trees[0].at, c.key, c.want) })
	}
	changesNothing(t, "a key that is not there", from(4, api.MaxRef-16), func(x *set) {
		if at, old, e := tree.Take(x.b, x.trees[0].at, 15); at != 0 || old != 0 || e != api.ErrKey {
			t.Error(at, old, e)
		}
	})
}

// P15.3: keys that are not there, of trees of some forms, shared or not: nothing changes.
func TestNoSuchKey(t *testing.T) {
	for _, form := range []string{"1", "7", "(3 3)", "((3 3 3) (3 3 3))"} {
		for how := range 4 {
			from := func() *set {
				x := start(t, 100)
				sharedSomehow(x, x.planted(form), how)
				return x
			}
			for _, key := range []uint64{0, 5, 15, 45, 95, 500, last} {
				changesNothing(t, "a key that is not there", from, func(x *set) {
					x.is("May", tree.May(x.b, x.trees[0].at, key), api.OK)
					if at, old, e := tree.Take(x.b, x.trees[0].at, key); at != 0 || old != 0 || e != api.ErrKey {
						t.Error(form, key, at, old, e)
					}
				})
			}
		}
	}
}
