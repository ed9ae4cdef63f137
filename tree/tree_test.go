package tree_test

import (
	"fmt"
	"math"
	"slices"
	"testing"

	"catchment/api"
	"catchment/base"
	"catchment/find"
	"catchment/own"
	"catchment/tree"
)

const last = math.MaxUint64

// P15.1 to P15.4: the chapter's examples.
func TestExamples(t *testing.T) {
	x := start(t, 60)
	l := x.some(2)
	x.up(l...)
	root, old, was, e := tree.Put(x.b, 0, 5, 4)
	if n, no := find.Node(x.b, root); e != api.OK || old != 0 || was || no != api.OK || !n.Leaf || !slices.Equal(n.Keys, []uint64{5}) || !slices.Equal(n.Vals, []uint64{4}) {
		t.Fatal(root, old, was, e, n)
	}
	if root, old, was, e = tree.Put(x.b, root, 5, 6); e != api.OK || old != 4 || !was {
		t.Fatal(root, old, was, e)
	}
	if val, is, e := find.Get(x.b, root, 5); val != 6 || !is || e != api.OK {
		t.Fatal(val, is, e)
	}
	for eighth := uint64(5); eighth < 80; eighth += 10 {
		x = start(t, 60)
		r := &root8{x: x}
		for key := uint64(10); key < 80; key += 10 {
			r.put(key)
		}
		if n, _ := find.Node(x.b, r.at); !n.Leaf || len(n.Keys) != 7 {
			t.Fatal(n)
		}
		r.put(eighth)
		r.keys(4, 4)
		for _, k := range []int{3, 4} {
			r.take(k)
		}
		r.keys(3, 3)
		r.take(2)
		r.keys(5)
		for range 5 {
			r.take(0)
		}
		if r.at != 0 {
			t.Fatal(r.at)
		}
	}
}

// root8 is the tree of the example.
type root8 struct {
	x  *set
	at int
}

func (r *root8) put(key uint64) {
	r.x.t.Helper()
	at, _, _, e := tree.Put(r.x.b, r.at, key, 0)
	r.x.is("Put", e, api.OK)
	r.at = at
}

// take takes the key that is so many keys behind the first one.
func (r *root8) take(i int) {
	r.x.t.Helper()
	l, _ := find.Walk(r.x.b, r.at, 0, last, 99)
	at, _, e := tree.Take(r.x.b, r.at, l[i].Key)
	r.x.is("Take", e, api.OK)
	r.at = at
}

// keys holds how many keys each leaf has; there are no levels between those and the root.
func (r *root8) keys(want ...int) {
	r.x.t.Helper()
	n, _ := find.Node(r.x.b, r.at)
	if n.Leaf {
		if len(want) != 1 || len(n.Keys) != want[0] {
			r.x.t.Fatal(n, want)
		}
		return
	}
	var got []int
	for _, kid := range n.Vals {
		leaf, _ := find.Node(r.x.b, int(kid))
		got = append(got, len(leaf.Keys))
	}
	if !slices.Equal(got, want) {
		r.x.t.Fatal(got, want)
	}
}

// P15.1: Need.
func TestNeed(t *testing.T) {
	for high, want := range map[int]int{math.MinInt: 2, math.MinInt + 1: 2, -100: 2, -2: 2, -1: 2, 0: 2, 1: 4, 2: 6, 3: 8, 7: 16, 8: 18, 9: 20, 100: 202, 1 << 20: 1<<21 + 2} {
		if n := tree.Need(high); n != want {
			t.Error(high, n, want)
		}
	}
}

// R5: of no base nothing is told, whatever else is asked for.
func TestNoBase(t *testing.T) {
	x := start(t, 60)
	r := x.planted("(4 4)")
	copied := *x.b
	for _, b := range []*base.Base{nil, new(base.Base), &copied} {
		for _, at := range append([]int{0, 2, 3, r.at, 59, 60}, nowhere...) {
			for _, key := range []uint64{0, 10, 45, last} {
				x.is("May", tree.May(b, at, key), api.ErrNil)
				if at, old, was, e := tree.Put(b, at, key, 4); at != 0 || old != 0 || was || e != api.ErrNil {
					t.Error("Put:", at, old, was, e)
				}
				if at, old, e := tree.Take(b, at, key); at != 0 || old != 0 || e != api.ErrNil {
					t.Error("Take:", at, old, e)
				}
			}
		}
	}
	x.holds()
}

// P15.2: the tree without keys, and P15.3: it has none to be taken.
func TestNoKeys(t *testing.T) {
	for _, key := range []uint64{0, 1, 5, 1 << 63, last} {
		for _, val := range []uint64{0, 4, 1, 60, last} {
			x := start(t, 60)
			x.some(1)
			r := x.plant(nil)
			x.takes(r, key)
			room := x.b.Room()
			x.puts(r, key, val)
			if x.b.Room() != room-1 {
				t.Error("Room", x.b.Room(), room)
			}
			x.takes(r, key+1)
			x.takes(r, key-1)
			x.takes(r, key)
			if r.at != 0 || x.b.Room() != room {
				t.Error(r.at, x.b.Room(), room)
			}
		}
	}
}

// turn is a change of a tree of some form: the key that is put or taken, and the form then.
type turn struct {
	from string
	key  uint64
	to   string
}

// puttings are keys put in, told by what the words say.
var puttings = []turn{
	{"6", 5, "7"}, {"6", 35, "7"}, {"6", 65, "7"}, {"6", 30, "6"},
	{"7", 5, "(4 4)"}, {"7", 15, "(4 4)"}, {"7", 35, "(4 4)"}, {"7", 45, "(4 4)"}, {"7", 55, "(4 4)"}, {"7", 75, "(4 4)"}, {"7", 70, "7"}, {"7", 10, "7"},
	{"(7 3 3)", 5, "(4 4 3 3)"}, {"(3 7 3)", 35, "(4 7 3)"}, {"(3 7 3)", 45, "(3 4 4 3)"}, {"(3 7 3)", 65, "(3 4 4 3)"}, {"(3 3 7)", 999, "(3 3 4 4)"}, {"(7 7 7)", 75, "(4 4 7 7)"}, {"(7 6 7)", 75, "(4 4 6 7)"}, {"(7 7 7)", 85, "(7 4 4 7)"},
	{"(7 3 3 3 3 3 3)", 5, "((4 4 3 3) (3 3 3 3))"}, {"(3 3 3 7 3 3 3)", 165, "((3 3 3 4) (4 3 3 3))"}, {"(3 3 3 3 3 3 7)", 999, "((3 3 3 3) (3 3 4 4))"}, {"(3 3 3 3 7 3 3)", 135, "((3 3 3 3) (4 4 3 3))"},
	{"(3 3 3 3 3 3 3)", 5, "(4 3 3 3 3 3 3)"},
	{"((3 7 3 3 3 3 3) (3 3 3))", 45, "((3 4 4 3) (3 3 3 3) (3 3 3))"},
	{"((3 3 3) (3 3 3 3 3 3 7))", 999, "((3 3 3) (3 3 3 3) (3 3 4 4))"},
	{"((3 3 3) (7 3 3) (3 3 3))", 95, "((3 3 4) (7 3 3) (3 3 3))"},
	{"((3 3 3) (7 3 3) (3 3 3))", 105, "((3 3 3) (4 4 3 3) (3 3 3))"},
	{"((7 3 3 3 3 3 3) (3 3 3) (3 3 3) (3 3 3) (3 3 3) (3 3 3) (3 3 3))", 1, "(((4 4 3 3) (3 3 3 3) (3 3 3) (3 3 3)) ((3 3 3) (3 3 3) (3 3 3) (3 3 3)))"},
	{"((3 3 3) (3 3 3) (3 3 3) (3 3 3) (3 3 3) (3 3 3) (3 3 3 3 3 3 7))", 999, "(((3 3 3) (3 3 3) (3 3 3) (3 3 3)) ((3 3 3) (3 3 3) (3 3 3 3) (3 3 4 4)))"},
	{"((3 3 3) (3 3 3) (3 3 3) (3 3 3) (3 3 3) (3 3 3) (3 3 7))", 999, "((3 3 3) (3 3 3) (3 3 3) (3 3 3) (3 3 3) (3 3 3) (3 3 4 4))"},
	{"((3 3 3) (3 3 3) (3 3 3) (3 3 3) (3 3 3) (3 3 3) (3 3 3 3 3 3 3))", 999, "((3 3 3) (3 3 3) (3 3 3) (3 3 3) (3 3 3) (3 3 3) (3 3 3 3 3 3 4))"},
}

// takings are keys taken out, likewise.
var takings = []turn{
	{"1", 10, "none"}, {"2", 10, "1"}, {"2", 20, "1"}, {"7", 10, "6"}, {"7", 40, "6"}, {"7", 70, "6"},
	{"(4 3)", 10, "(3 3)"}, {"(4 3)", 40, "(3 3)"}, {"(3 4)", 60, "(3 3)"},
	{"(3 3)", 10, "5"}, {"(3 3)", 60, "5"}, {"(3 4)", 20, "6"}, {"(4 3)", 60, "6"}, {"(3 5)", 30, "7"}, {"(5 3)", 60, "7"}, {"(3 6)", 10, "(4 4)"}, {"(6 3)", 70, "(4 4)"}, {"(3 7)", 10, "(5 4)"}, {"(7 3)", 100, "(5 4)"},
	{"(3 3 3)", 20, "(5 3)"}, {"(3 3 3)", 50, "(5 3)"}, {"(3 3 3)", 90, "(3 5)"},
	{"(5 3 7)", 60, "(7 7)"}, {"(6 3 3)", 70, "(4 4 3)"}, {"(7 3 3)", 80, "(5 4 3)"}, {"(7 7 3)", 150, "(7 5 4)"}, {"(3 7 7)", 10, "(5 4 7)"}, {"(3 6 7)", 10, "(4 4 7)"}, {"(3 5 7)", 10, "(7 7)"}, {"(3 3 3 3)", 90, "(3 5 3)"}, {"(3 3 3 3)", 120, "(3 3 5)"},
	{"((3 3 3) (3 3 3))", 10, "(5 3 3 3 3)"}, {"((3 3 3) (3 3 3))", 180, "(3 3 3 3 5)"}, {"((3 3 3) (3 3 3 3))", 50, "(5 3 3 3 3 3)"}, {"((3 3 3) (3 3 3 3 3))", 90, "(3 5 3 3 3 3 3)"}, {"((3 3 3) (3 3 3 3 3 3))", 10, "((5 3 3 3) (3 3 3 3))"}, {"((3 3 3) (3 3 3 3 3 3 3))", 10, "((5 3 3 3 3) (3 3 3 3))"}, {"((3 3 3 3 3 3 3) (3 3 3))", 300, "((3 3 3 3 3) (3 3 3 5))"}, {"((3 3 3 3 3 3) (3 3 3))", 190, "((3 3 3 3) (3 3 5 3))"},
	{"((3 3 3 3) (3 3 3))", 10, "((5 3 3) (3 3 3))"}, {"((3 3 3 3) (3 3 3))", 130, "(3 3 3 3 5 3)"}, {"((3 3 3) (6 3 3))", 160, "((3 3 3) (4 4 3))"}, {"((3 3 3) (5 3 3))", 150, "(3 3 3 7 3)"}, {"((3 3 3) (3 3 3) (3 3 3))", 100, "((3 3 3 5 3) (3 3 3))"}, {"((3 3 3) (3 3 3) (3 3 3))", 190, "((3 3 3) (3 3 3 5 3))"}, {"((3 3 3) (3 3 3) (3 3 3))", 50, "((5 3 3 3 3) (3 3 3))"},
	{"(((3 3 3) (3 3 3) (3 3 3)) ((3 3 3) (3 3 3) (3 3 3)))", 10, "((5 3 3 3 3) (3 3 3) (3 3 3) (3 3 3) (3 3 3))"},
	{"(((3 3 3) (3 3 3) (3 3 3)) ((3 3 3) (3 3 3) (3 3 3) (3 3 3)))", 100, "((3 3 3 5 3) (3 3 3) (3 3 3) (3 3 3) (3 3 3) (3 3 3))"},
	{"(((3 3 3) (3 3 3) (3 3 3)) ((3 3 3) (3 3 3) (3 3 3) (3 3 3) (3 3 3) (3 3 3)))", 10, "(((5 3 3 3 3) (3 3 3) (3 3 3) (3 3 3)) ((3 3 3) (3 3 3) (3 3 3) (3 3 3)))"},
	{"(((3 3 3) (3 3 3) (3 3 3)) ((3 3 3) (3 3 3) (3 3 3)))", 540, "((3 3 3) (3 3 3) (3 3 3) (3 3 3) (3 3 3 3 5))"},
}

// P15.2 to P15.4: keys that are put and taken in trees of all forms, whose nodes are fresh, or committed; of which the root, a kid, a leaf is shared, or the whole tree.
func TestTurns(t *testing.T) {
	for _, taking := range []bool{false, true} {
		list := puttings
		if taking {
			list = takings
		}
		for _, c := range list {
			for how := range 8 {
				x := start(t, 400)
				r := x.planted(c.from)
				sharedSomehow(x, r, how)
				if taking {
					x.takes(r, c.key)
				} else {
					x.puts(r, c.key, uint64(x.some(1)[0]))
				}
				if to := r.has.form(); to != c.to {
					t.Fatalf("%s: %d, how %d: %s, not %s", c.from, c.key, how, to, c.to)
				}
				x.commit()
				x.holds()
			}
		}
	}
}

// sharedSomehow lets a tree be fresh or committed, and shared or not, in one of 8 ways.
func sharedSomehow(x *set, r *root, how int) {
	x.t.Helper()
	if how%2 == 1 {
		x.commit()
	}
	if r.has == nil {
		return
	}
	switch how / 2 {
	case 1:
		x.share(r)
	case 2, 3: // all kids of the root, or those of the last one, are trees of their own, too
		from, at := r.has, r.at
		if how/2 == 3 && !from.leaf() {
			at, from = x.node(r, len(from.kids)-1), from.kids[len(from.kids)-1]
		}
		for i, kid := range from.kids {
			x.trees = append(x.trees, &root{x.node(&root{at: at}, i), kid})
		}
		x.up(kidsOf(x, at)...)
	}
	x.holds()
}

// kidsOf are the blocks of a node's kids.
func kidsOf(x *set, at int) []int {
	x.t.Helper()
	n, e := find.Node(x.b, at)
	x.is("Node", e, api.OK)
	var l []int
	if !n.Leaf {
		for _, kid := range n.Vals {
			l = append(l, int(kid))
		}
	}
	return l
}

// P15.2, P15.3: each key that is there, and each place between two, of trees of some forms.
func TestEachKey(t *testing.T) {
	for _, form := range []string{"1", "3", "7", "(3 3)", "(7 7)", "(3 7 3)", "(7 3 7 3 7 3 7)", "((3 4 3) (7 3 7))", "((3 3 3) (3 3 3 3 3 3 3))", "((7 3 7 3 7 3 7) (3 3 3))"} {
		p := formed(form)
		for key := uint64(0); key <= p.items()[len(p.items())-1].Key+5; key += 5 {
			for how := range 4 {
				x := start(t, 400)
				r := x.planted(form)
				sharedSomehow(x, r, how)
				other := x.share(r)
				x.puts(other, key, 0)
				x.takes(r, key)
				x.puts(r, key, uint64(x.data[0]))
				x.takes(other, key)
			}
		}
	}
}

// P15.2: keys ahead of the first, behind the last, 0 and 2^64 - 1; the nodes of the way have the key beside their first kids then.
func TestFirstAndLast(t *testing.T) {
	for _, form := range []string{"3", "7", "(3 3)", "(7 3)", "((3 3 3) (3 3 3))", "((7 3 3 3 3 3 3) (3 3 3))", "(((3 3 3) (3 3 3) (3 3 3)) ((3 3 3) (3 3 3) (3 3 3)))"} {
		for _, key := range []uint64{0, 1, 9} {
			x := start(t, 400)
			r := x.planted(form)
			x.puts(r, key, uint64(x.data[0]))
			for at := r.at; ; {
				n, e := find.Node(x.b, at)
				x.is("Node", e, api.OK)
				if n.Keys[0] != key {
					t.Fatal(form, key, n)
				}
				if n.Leaf {
					break
				}
				at = int(n.Vals[0])
			}
			x.puts(r, last, uint64(x.data[0]))
			x.puts(r, last, 0)
			x.puts(r, last-1, uint64(x.data[0]))
			x.takes(r, last)
			x.takes(r, key)
			x.takes(r, key)
			x.puts(r, 0, 0)
		}
	}
}

// P15.2: the nodes whose keys are greater than the key are just those of the way: no other's change; a key that is less than the first of its leaf, but not than the leaf's in its parent, changes none.
func TestKeysOfTheWay(t *testing.T) {
	x := start(t, 100)
	leaf := func(keys ...uint64) int {
		return x.put(api.Node{Leaf: true, Keys: keys, Vals: make([]uint64, len(keys))})
	}
	l := []int{leaf(12, 14, 16), leaf(25, 26, 27), leaf(35, 36, 37), leaf(45, 46, 47), leaf(55, 56, 57), leaf(65, 66, 67)}
	one := x.put(api.Node{Keys: []uint64{10, 20, 30}, Vals: []uint64{uint64(l[0]), uint64(l[1]), uint64(l[2])}})
	two := x.put(api.Node{Keys: []uint64{42, 50, 60}, Vals: []uint64{uint64(l[3]), uint64(l[4]), uint64(l[5])}})
	root := x.put(api.Node{Keys: []uint64{7, 40}, Vals: []uint64{uint64(one), uint64(two)}})
	for _, c := range []struct {
		key       uint64
		root, kid []uint64
		which     int
	}{
		{21, []uint64{7, 40}, []uint64{10, 20, 30}, 0},
		{11, []uint64{7, 40}, []uint64{10, 20, 30}, 0},
		{9, []uint64{7, 40}, []uint64{9, 20, 30}, 0},
		{43, []uint64{7, 40}, []uint64{42, 50, 60}, 1},
		{41, []uint64{7, 40}, []uint64{41, 50, 60}, 1},
		{39, []uint64{7, 40}, []uint64{9, 20, 30}, 0},
		{3, []uint64{3, 40}, []uint64{3, 20, 30}, 0},
		{40, []uint64{3, 40}, []uint64{40, 50, 60}, 1},
	} {
		at, _, was, e := tree.Put(x.b, root, c.key, 0)
		if at != root || was || e != api.OK || !find.Right(x.b, root) {
			t.Fatal(c.key, at, was, e)
		}
		over, _ := find.Node(x.b, root)
		kid, _ := find.Node(x.b, int(over.Vals[c.which]))
		if !slices.Equal(over.Keys, c.root) || !slices.Equal(kid.Keys, c.kid) {
			t.Fatal(c.key, over.Keys, kid.Keys)
		}
	}
}

// P15.2, P15.3: values of all kinds, in leaves that are not shared; each is handed back as it was.
func TestValues(t *testing.T) {
	x := start(t, 100)
	odd := []uint64{0, 1, 2, 3, 50, 99, 100, 4095, 4096, 65536 + 4, 1 << 32, 1 << 63, 1<<64 - 4, last}
	root := 0
	for i := range 40 {
		at, old, was, e := tree.Put(x.b, root, uint64(i), odd[i%len(odd)])
		if old != 0 || was || e != api.OK {
			t.Fatal(i, old, was, e)
		}
		root = at
		if i%9 == 8 {
			x.commit()
		}
	}
	for i := range 40 {
		at, old, was, e := tree.Put(x.b, root, uint64(i), odd[(i+1)%len(odd)])
		if old != odd[i%len(odd)] || !was || e != api.OK {
			t.Fatal(i, old, was, e)
		}
		root = at
	}
	for i := range 40 {
		at, old, e := tree.Take(x.b, root, uint64(i*7%40))
		if old != odd[(i*7%40+1)%len(odd)] || e != api.OK {
			t.Fatal(i, old, e)
		}
		root = at
	}
	if x.trees = nil; root != 0 {
		t.Error(root)
	}
	x.recount()
}

// P15.2: the value that is there already: the way is changed all the same, and its reference is handed back.
func TestSameValue(t *testing.T) {
	x := start(t, 100)
	r := x.planted("(4 4)")
	x.commit()
	was := r.at
	x.puts(r, 20, r.has.items()[1].Val)
	if r.at == was || x.b.Waits() != 2 {
		t.Error(r.at, was, x.b.Waits())
	}
	other := x.share(r)
	x.puts(r, 20, r.has.items()[1].Val)
	if r.at == other.at {
		t.Error("both are one still")
	}
}

// P15.2, P15.3: what one has for oneself is changed where it stands; only what is split takes a block.
func TestInPlace(t *testing.T) {
	x := start(t, 200)
	r := x.planted("((3 7 3) (3 4 3))")
	room, root, leaf := x.b.Room(), r.at, x.node(r, 1, 1)
	x.puts(r, 195, 0)
	x.takes(r, 195)
	if r.at != root || x.node(r, 1, 1) != leaf || x.b.Room() != room {
		t.Error(r.at, root, x.b.Room(), room)
	}
	x.puts(r, 65, 0)
	if r.at != root || x.b.Room() != room-1 {
		t.Error(r.at, root, x.b.Room(), room)
	}
	x.takes(r, 30)
	if r.at != root || x.b.Room() != room { // the leaf of three keys is one with that of four
		t.Error(r.at, root, x.b.Room(), room)
	}
}

// P15.3: nodes that are let go, and the root among them: their blocks are free again, or wait.
func TestLetGo(t *testing.T) {
	for _, committed := range []bool{false, true} {
		x := start(t, 200)
		r := x.planted("((3 3 3) (3 3 3))")
		for _, item := range r.has.items() {
			x.puts(r, item.Key, 0)
		}
		if committed {
			x.commit()
		}
		room := x.b.Room()
		x.takes(r, 10)
		// Nine nodes were there, six are: a leaf, a node over leaves, and the root have gone. Five had to be copied, if they were committed.
		if want := map[bool]int{false: room + 3, true: room - 2}[committed]; x.b.Room() != want || r.has.form() != "(5 3 3 3 3)" {
			t.Error(committed, x.b.Room(), want, r.has.form())
		}
		if want := map[bool]int{false: 0, true: 5}[committed]; x.b.Waits() != want {
			t.Error(committed, x.b.Waits(), want)
		}
		for len(r.has.items()) > 0 {
			x.takes(r, r.has.items()[0].Key)
		}
		x.commit()
		if r.at != 0 || x.b.Waits() != 0 {
			t.Error(r.at, x.b.Waits())
		}
	}
}

// P15.4: keys enough for four levels, put in rising, falling and mixed order; then all are taken, in each of these orders, and all is free again.
func TestMany(t *testing.T) {
	orders := map[string]func(i int) uint64{
		"rising": func(i int) uint64 { return uint64(i) }, "falling": func(i int) uint64 { return uint64(400 - i) },
		"mixed": func(i int) uint64 { return uint64(i * 37 % 401) }, "inwards": func(i int) uint64 { return uint64(200 + (i%2*2-1)*((i+1)/2)) },
	}
	for put, from := range orders {
		for take, to := range orders {
			x := start(t, 600)
			x.put(of(0)) // so that pages stand where each later Commit may put them
			x.is("Back", x.b.Back(), api.OK)
			room := x.b.Room()
			root, has := 0, (*plant)(nil)
			for i := range 401 {
				at, _, was, e := tree.Put(x.b, root, from(i), 0)
				if was || e != api.OK {
					t.Fatal(put, i, was, e)
				}
				root, has = at, has.put(from(i), 0)
				if i%100 == 99 {
					x.commit()
				}
			}
			x.reads(root, has)
			if h, e := find.Height(x.b, root); e != api.OK || h != has.high() || h < 4 || !find.Right(x.b, root) {
				t.Fatal(put, h, e)
			}
			for i := range 401 {
				at, _, e := tree.Take(x.b, root, to(i))
				if e != api.OK {
					t.Fatal(put, take, i, e)
				}
				root, has = at, has.take(to(i))
				if i%50 == 9 {
					x.commit()
					x.reads(root, has)
				}
			}
			x.commit()
			if root != 0 || x.b.Room() != room {
				t.Error(put, take, root, x.b.Room(), room)
			}
		}
	}
}

// P15.4: trees that were copied tell what they told, however the others are changed, with a Commit, a Back or an Open between.
func TestShared(t *testing.T) {
	for how := range 4 {
		x := start(t, 900)
		r := x.planted("(((4 4 4) (3 3 3) (3 4 3)) ((3 3 3) (7 7 7 7 7 7 7) (3 3 3)))")
		var snaps []*root
		for i := range 12 {
			snaps = append(snaps, x.share(r))
			switch how {
			case 1:
				x.commit()
			case 2:
				x.commit()
				x.again()
			case 3:
				x.commit()
				room, waits := x.b.Room(), x.b.Waits()
				were := *r
				x.puts(r, 1, uint64(x.data[0]))
				x.takes(r, 20)
				x.is("Back", x.b.Back(), api.OK)
				*r = were
				if x.holds(); x.b.Room() != room || x.b.Waits() != waits {
					t.Error(x.b.Room(), room, x.b.Waits(), waits)
				}
			}
			l := r.has.items()
			x.takes(r, l[i*5%len(l)].Key)
			x.puts(r, l[i*11%len(l)].Key+uint64(i%3), uint64(x.data[i%3]))
			x.takes(snaps[i/2], snaps[i/2].has.items()[i].Key)
		}
		for _, r := range x.trees {
			x.is("Drop", own.Drop(x.b, r.at, own.Let(x.b)), api.OK)
		}
		x.trees = nil
		x.holds()
		if n := x.b.Count(x.data[0]); n != 1 {
			t.Error(how, n)
		}
	}
}

// P15.2, R4: where two bases have had the same, they tell the same, blocks and all.
func TestSameAgain(t *testing.T) {
	one, two := start(t, 300), start(t, 300)
	for _, x := range []*set{one, two} {
		r := x.planted("((3 7 3) (3 4 3))")
		x.commit()
		x.share(r)
		for i := range uint64(30) {
			x.puts(r, i*7, 0)
			l := r.has.items()
			x.takes(r, l[i*5%uint64(len(l))].Key)
		}
	}
	if one.state(false) != two.state(false) || fmt.Sprint(one.trees[0].at) != fmt.Sprint(two.trees[0].at) {
		t.Error("they are unlike")
	}
}
