package find_test

import (
	"fmt"
	"math"
	"math/rand"
	"slices"
	"testing"

	"catchment/api"
	"catchment/base"
	"catchment/find"
)

// nowhere are numbers that are no block behind both supers, on any disk, nor the root of the tree without keys.
var nowhere = []int{-1, 1, -2, -4, math.MinInt32, math.MinInt + 1, math.MinInt, 4096, 4097, 65536 + 4, 1 << 32, 1<<32 + 4, math.MaxInt - 1, math.MaxInt}

// mosts are numbers of items that are asked for of n.
func mosts(n int) []int {
	return []int{math.MinInt, -n, -1, 0, 1, 2, n - 1, n, n + 1, math.MaxInt - 1, math.MaxInt}
}

// gets holds what Get tells of a key.
func gets(t testing.TB, b *base.Base, root int, key, want uint64, there bool) {
	t.Helper()
	if val, is, e := find.Get(b, root, key); val != want || is != there || e != api.OK {
		t.Errorf("Get(%d, %d): %d %v %v, not %d %v", root, key, val, is, e, want, there)
	}
}

// walks holds what Walk tells.
func walks(t testing.TB, b *base.Base, root int, from, to uint64, most int, want ...api.Item) {
	t.Helper()
	if l, e := find.Walk(b, root, from, to, most); e != api.OK || !slices.Equal(l, want) {
		t.Errorf("Walk(%d, %d, %d, %d): %v %v, not %v", root, from, to, most, l, e, want)
	}
}

// has holds what Height tells, and Right.
func has(t testing.TB, b *base.Base, root, high int) {
	t.Helper()
	if n, e := find.Height(b, root); n != high || e != api.OK {
		t.Errorf("Height(%d): %d %v, not %d", root, n, e, high)
	}
	if !find.Right(b, root) {
		t.Errorf("Right(%d) is false", root)
	}
}

// holds holds all that is told of a right tree against the words: of each of some keys, of some of the ranges between two of them.
func (x *set) holds(root int, rnd *rand.Rand, ranges int) {
	x.t.Helper()
	if !x.p.right(root) {
		x.t.Fatal("a tree of the test is not right:", root)
	}
	has(x.t, x.b, root, x.p.high(root))
	all, at := x.p.items(root), about(x.p.keys(root))
	for _, key := range at {
		val, is := get(all, key)
		gets(x.t, x.b, root, key, val, is)
	}
	for range ranges {
		from, to := at[rnd.Intn(len(at))], at[rnd.Intn(len(at))]
		in := walk(all, from, to, len(all))
		for _, most := range mosts(len(in)) {
			walks(x.t, x.b, root, from, to, most, walk(all, from, to, most)...)
		}
	}
	for _, most := range append(mosts(len(all)), 3, 7, 8, len(all)/2) {
		walks(x.t, x.b, root, 0, top, most, walk(all, 0, top, most)...)
	}
}

// P13.1, P13.2: the chapter's examples.
func TestExamples(t *testing.T) {
	x := start(t, 16)
	gets(t, x.b, 0, 5, 0, false)
	has(t, x.b, 0, 0)
	at := x.put(api.Node{Leaf: true, Keys: []uint64{2, 5}, Vals: []uint64{20, 50}})
	if at != 4 {
		t.Fatal(at)
	}
	gets(t, x.b, 4, 5, 50, true)
	walks(t, x.b, 4, 0, 9, 9, api.Item{Key: 2, Val: 20}, api.Item{Key: 5, Val: 50})
	walks(t, x.b, 4, 3, 9, 9, api.Item{Key: 5, Val: 50})
	has(t, x.b, 4, 1)
	if find.Right(x.b, x.put(kids([]uint64{0, 5}, 4, 9))) {
		t.Error("a kid where noughts stand")
	}
	refuses(t, x.b, 2, api.ErrTree)
}

// R5: of no base all is refused, whatever else is asked for.
func TestNoBase(t *testing.T) {
	x := start(t, 16)
	at := x.put(of(5))
	copied := *x.b
	for _, b := range []*base.Base{nil, new(base.Base), &copied} {
		for _, root := range append([]int{0, 2, 3, at, 15, 16}, nowhere...) {
			refuses(t, b, root, api.ErrNil)
			for _, most := range mosts(1) {
				if l, e := find.Walk(b, root, 9, 3, most); e != api.ErrNil || len(l) != 0 {
					t.Error(root, most, l, e)
				}
			}
		}
	}
}

// P13.1: nodes of each kind, with as few and as many keys as may be, at all blocks behind both supers: fresh, written over, committed.
func TestNode(t *testing.T) {
	x := start(t, 62)
	for n := range 8 {
		x.put(of(row(n, uint64(n), 1<<61)...))
	}
	for n := 1; n < 8; n++ {
		x.put(kids(row(n, 0, 1<<60), []int{1, 2, 61, 62, 4094, 4095, 9}[:n]...))
	}
	x.put(api.Node{Leaf: true, Keys: []uint64{0, 1, top}, Vals: []uint64{0, top, top}})
	x.put(api.Node{Leaf: true, Keys: []uint64{7}, Vals: []uint64{0}})
	for x.b.Room() > 0 {
		x.put(of(uint64(x.b.Room())))
	}
	tellsAll := func() {
		t.Helper()
		for at, want := range x.p {
			if n, e := find.Node(x.b, at); e != api.OK || !same(n, want) {
				t.Fatalf("Node(%d): %v %v, not %v", at, n, e, want)
			}
		}
	}
	tellsAll()
	for at := range x.p {
		if at%3 == 0 {
			x.over(at, of(uint64(at), top))
		}
	}
	tellsAll()
	x.commit()
	tellsAll()
	x.again()
	tellsAll()
}

// P13.1: what is no block, or ahead of First, is refused, whatever stands there.
func TestNodeNowhere(t *testing.T) {
	for _, blocks := range []int{16, 17, 62, 4096} {
		x := start(t, blocks)
		for at := range api.First { // nodes stand where supers do: of them there is nothing to be told
			x.d.Write(at, page(of(5)))
		}
		for _, at := range append([]int{0, blocks, blocks + 1, -blocks}, nowhere...) {
			if n, e := find.Node(x.b, at); e != api.ErrArg || !same(n, api.Node{}) {
				t.Errorf("%d blocks: Node(%d): %v %v", blocks, at, n, e)
			}
			if at != 0 {
				refuses(t, x.b, at, api.ErrArg)
			}
		}
		last := x.b.Blocks() - 1
		x.d.Write(last, page(of(5)))
		has(t, x.b, last, 1)
	}
}

// P13.1: blocks that have no node: noughts, pages of other kinds, pages of nodes in which one thing is wrong.
func TestNodeNone(t *testing.T) {
	x := start(t, 200)
	for at := 2; at < 10; at++ { // count pages, the directory page, blocks that nobody put
		refuses(t, x.b, at, api.ErrTree)
	}
	refuses(t, x.b, 199, api.ErrTree)
	torn := page(of(5))
	torn[127]++
	other := page(of(5))
	other[0] = api.PageShelf
	for _, b := range [][]byte{torn, other, make([]byte, 128),
		page(kids(nil)),
		page(kids([]uint64{5, 5}, 4, 5)),
		page(kids([]uint64{5, 4}, 4, 5)),
		page(kids([]uint64{4, 5}, 4, 4)),
		page(kids([]uint64{4, 5}, 0, 4)),
		page(kids([]uint64{4, 5}, 4, 4096)),
		page(api.Node{Leaf: true, Keys: []uint64{5, 5}, Vals: []uint64{1, 2}}),
		page(api.Node{Leaf: true, Keys: []uint64{5, 4}, Vals: []uint64{1, 2}}),
	} {
		at := x.data(b)
		refuses(t, x.b, at, api.ErrTree)
	}
	x.commit()
	for at := 10; at < 30; at++ {
		refuses(t, x.b, at, api.ErrTree)
	}
}

// P13.2: the tree without keys.
func TestRootNought(t *testing.T) {
	for _, blocks := range []int{16, 4096} {
		x := start(t, blocks)
		for _, key := range about([]uint64{5}) {
			gets(t, x.b, 0, key, 0, false)
			for _, to := range about([]uint64{5}) {
				for _, most := range mosts(0) {
					walks(t, x.b, 0, key, to, most)
				}
			}
		}
		has(t, x.b, 0, 0)
		if n, e := find.Node(x.b, 0); e != api.ErrArg || !same(n, api.Node{}) {
			t.Error(n, e)
		}
	}
}

// P13.2: a root that is a leaf, with each number of keys that there may be; each key, each range, each number of items.
func TestLeaves(t *testing.T) {
	for n := 1; n <= 7; n++ {
		for _, keys := range [][]uint64{row(n, 0, 1), row(n, 3, 2), row(n, top-uint64(n)+1, 1), row(n, top-2*uint64(n), 2), row(n, 5, 1<<61)} {
			x := start(t, 16)
			root := x.put(of(keys...))
			x.holds(root, rand.New(rand.NewSource(1)), 0)
			all, at := x.p.items(root), about(keys)
			for _, from := range at {
				for _, to := range at {
					for _, most := range mosts(n) {
						walks(t, x.b, root, from, to, most, walk(all, from, to, most)...)
					}
				}
			}
		}
	}
}

// P13.2: a tree of two levels: each key, and each range, that begins and ends at keys, beside them, at the edges of leaves, from 0, up to the greatest number.
func TestTwoLevels(t *testing.T) {
	for _, keys := range [][]uint64{row(6, 0, 1), row(9, 10, 10), row(20, top-57, 3), {0, 1, 2, 1 << 63, top - 1, top}} {
		for _, slack := range []func(uint64, uint64) uint64{tight, wide, middle} {
			x := start(t, 60)
			root := x.build(keys, few, slack)
			if x.p[root].Leaf { // six keys are a leaf's, too
				root = x.put(kids([]uint64{slack(0, keys[0]), slack(keys[2]+1, keys[3])}, x.put(of(keys[:3]...)), x.put(of(keys[3:]...))))
			}
			x.holds(root, rand.New(rand.NewSource(2)), 0)
			all, at := x.p.items(root), about(x.p.keys(root))
			for _, from := range at {
				for _, to := range at {
					for _, most := range []int{1, len(all)} {
						walks(t, x.b, root, from, to, most, walk(all, from, to, most)...)
					}
				}
			}
		}
	}
}

// P13.2: trees of many shapes, before they are committed and behind; each of their nodes is a root, too.
func TestTrees(t *testing.T) {
	rnd := rand.New(rand.NewSource(3))
	levels := map[int]int{}
	for i := range 60 {
		x := start(t, 400)
		size := []func(int, int) int{few, many, chance(rnd)}[i%3]
		slack := []func(uint64, uint64) uint64{tight, wide, middle, scattered(rnd)}[rnd.Intn(4)]
		root := x.build(some(rnd, 1+rnd.Intn(1<<(1+rnd.Intn(9)))), size, slack)
		levels[x.p.high(root)]++
		x.holds(root, rnd, 40)
		x.commit()
		for at := range x.p {
			x.holds(at, rnd, 1)
		}
	}
	for high := 1; high <= 5; high++ {
		if levels[high] == 0 {
			t.Error("no tree of so many levels:", high, levels)
		}
	}
}

// tall puts a right tree of so many levels, whose root has that many keys, and each other node as few as may be. Its keys are 5, 7, 9 and so on.
func (x *set) tall(high, keys int) int {
	next := uint64(5)
	var put func(level, keys int) sub
	put = func(level, keys int) sub {
		if level == 1 {
			n := of(row(keys, next, 2)...)
			next += 2 * uint64(keys)
			return sub{at: x.put(n), first: n.Keys[0]}
		}
		var n api.Node
		for range keys {
			s := put(level-1, 3)
			n.Keys, n.Vals = append(n.Keys, s.first), append(n.Vals, uint64(s.at))
		}
		return sub{at: x.put(n), first: n.Keys[0]}
	}
	return put(high, keys).at
}

// P13.2: trees of as many levels as there may be.
func TestEightLevels(t *testing.T) {
	x := start(t, 4096)
	root := x.tall(8, 2)
	if !x.p.right(root) || len(x.p) != 2187 {
		t.Fatal(len(x.p))
	}
	has(t, x.b, root, 8)
	all := x.p.items(root)
	walks(t, x.b, root, 0, top, math.MaxInt, walk(all, 0, top, len(all))...)
	for i := range uint64(30) {
		for _, key := range []uint64{i, 5 + 2*i*291, 4 + 2*i*291, uint64(2*len(all)) + 5 - i} {
			val, is := get(all, key)
			gets(t, x.b, root, key, val, is)
			walks(t, x.b, root, key, top, 20, walk(all, key, top, 20)...)
		}
	}
	x.commit()
	has(t, x.b, root, 8)
	kid := int(x.p[root].Vals[1])
	has(t, x.b, kid, 7)
	high := root
	for level := 8; level > 0; level-- {
		has(t, x.b, high, level)
		high = int(x.p[high].Vals[2%len(x.p[high].Vals)])
	}
}

// narrow puts a leaf, and above it nodes whose first kid is the one below, so many levels in all; no other kid stands anywhere.
func (x *set) narrow(high int) int {
	at := x.put(of(10, 11, 12))
	for level := 1; level < high; level++ {
		far := 4095 - 3*level
		at = x.put(kids([]uint64{0, uint64(1000 + level), uint64(2000 + level)}, at, far, far-1))
	}
	return at
}

// P13.2: more levels than there may be: nobody goes down to what is below them.
func TestMoreLevels(t *testing.T) {
	for high := 9; high < 20; high++ {
		x := start(t, 60)
		root := x.narrow(high)
		for _, key := range []uint64{0, 10, 11, 12, 13} {
			if val, is, e := find.Get(x.b, root, key); e != api.ErrTree || val != 0 || is {
				t.Errorf("%d levels: Get of %d: %d %v %v", high, key, val, is, e)
			}
			for _, most := range []int{0, 1, 3, 4} {
				if l, e := find.Walk(x.b, root, key, top, most); e != api.ErrTree || len(l) != 0 {
					t.Errorf("%d levels: Walk from %d: %v %v", high, key, l, e)
				}
			}
		}
		if n, e := find.Height(x.b, root); e != api.ErrTree || n != 0 {
			t.Errorf("%d levels: Height: %d %v", high, n, e)
		}
		if find.Right(x.b, root) {
			t.Errorf("%d levels are right", high)
		}
	}
}

// P13.2: of a tree that has one level more than there may be nothing is told, but of its kids, which have as many as there may be.
func TestNineLevels(t *testing.T) {
	x := start(t, 4096)
	kid := x.tall(8, 3)
	has(t, x.b, kid, 8)
	items := x.p.items(kid)
	last := slices.Max(x.p.keys(kid))
	beside := x.put(of(last+1, last+2, last+3))
	for _, root := range []int{x.put(kids([]uint64{0, last + 1}, kid, beside)), x.put(kids([]uint64{0, 3}, beside, kid))} {
		if find.Right(x.b, root) || x.p.right(root) {
			t.Error("nine levels are right")
		}
		ends(t, "nine levels", func() {
			for _, key := range []uint64{0, 4, 5, 6, last, last + 1} {
				tells(t, x.b, root, key, top, math.MaxInt)
			}
		})
		if val, is, e := find.Get(x.b, root, items[0].Key); is || val != 0 {
			t.Error("Get of what is nine levels down:", val, e)
		}
	}
	if high, e := find.Height(x.b, x.put(kids([]uint64{0, last + 1}, kid, beside))); high != 0 || e != api.ErrTree {
		t.Error(high, e)
	}
}

// P13.3: Get tells what Walk tells; a walk in two parts is the walk of both.
func TestParts(t *testing.T) {
	rnd := rand.New(rand.NewSource(4))
	for i := range 20 {
		x := start(t, 200)
		root := x.build(some(rnd, 1+8*i), chance(rnd), scattered(rnd))
		at := about(x.p.keys(root))
		all, _ := find.Walk(x.b, root, 0, top, math.MaxInt)
		for _, key := range at {
			l, e := find.Walk(x.b, root, key, key, 9)
			if val, is, no := find.Get(x.b, root, key); e != no || is != (len(l) == 1) || is && l[0] != (api.Item{Key: key, Val: val}) {
				t.Fatal(key, l, e, val, is, no)
			}
			if key == top {
				continue
			}
			one, e := find.Walk(x.b, root, 0, key, math.MaxInt)
			two, no := find.Walk(x.b, root, key+1, top, math.MaxInt)
			if e != api.OK || no != api.OK || !slices.Equal(slices.Concat(one, two), all) {
				t.Fatal("parts at", key, one, e, two, no)
			}
		}
		for n := range len(all) {
			one, e := find.Walk(x.b, root, 0, top, n)
			if e != api.OK || len(one) != n {
				t.Fatal(n, one, e)
			}
			from := uint64(0)
			if n > 0 {
				from = one[n-1].Key + 1
			}
			two, e := find.Walk(x.b, root, from, top, len(all))
			if e != api.OK || !slices.Equal(slices.Concat(one, two), all) {
				t.Fatal("parts behind", n, one, two, e)
			}
		}
	}
}

// P13.1, R3: nodes that are told share no memory with one another, nor with what the base has; neither do their lists, with all their spare room.
func TestMemoryOfNodes(t *testing.T) {
	for _, n := range []api.Node{of(row(7, 2, 2)...), of(5), kids(row(7, 2, 2), 2, 3, 4, 5, 6, 7, 8)} {
		for _, committed := range []bool{false, true} {
			x := start(t, 60)
			at := x.put(api.Node{Leaf: n.Leaf, Keys: slices.Clone(n.Keys), Vals: slices.Clone(n.Vals)})
			if committed {
				x.commit()
			}
			before := x.state()
			one, _ := find.Node(x.b, at)
			two, _ := find.Node(x.b, at)
			scribble(one.Keys)
			if !slices.Equal(one.Vals, n.Vals) {
				t.Error("keys and values share memory:", one)
			}
			scribble(one.Vals)
			if !same(two, n) {
				t.Error("two answers share memory:", two)
			}
			if again, e := find.Node(x.b, at); e != api.OK || !same(again, n) || x.state() != before {
				t.Error("an answer shares memory with the base:", again, e)
			}
		}
	}
}

// scribble writes over a list, and over its spare room.
func scribble[T any](l []T) {
	clear(l[:cap(l)])
}

// P13.2, R3: items likewise.
func TestMemoryOfItems(t *testing.T) {
	x := start(t, 60)
	root := x.build(row(30, 3, 3), few, middle)
	before, all := x.state(), x.p.items(root)
	one, _ := find.Walk(x.b, root, 0, top, 30)
	two, _ := find.Walk(x.b, root, 0, top, 12)
	three, _ := find.Walk(x.b, root, 0, top, 30)
	scribble(one)
	if !slices.Equal(two, all[:12]) || !slices.Equal(three, all) {
		t.Error("two answers share memory")
	}
	scribble(two)
	walks(t, x.b, root, 0, top, 30, all...)
	if x.state() != before || !slices.Equal(three, all) {
		t.Error("an answer shares memory with the base")
	}
}

// R2, R4: no call changes the base, nor its disk; asked once more, and of another base that was made alike, it answers the same; what is done behind them is the same, too.
func TestNothingChanges(t *testing.T) {
	x, y := start(t, 62), start(t, 62)
	var roots []int
	for i, s := range []*set{x, y} {
		roots = []int{s.build(row(40, 3, 3), few, middle), s.put(of(4)), s.put(kids([]uint64{0, 5}, 4, 60)), 2, 0, -1, 1, 61, 62}
		s.commit()
		s.p = plain{}
		roots = append(roots, s.build(row(8, 0, 9), many, wide), s.put(of()))
		s.d.Write(60, page(of(uint64(5))))
		if i == 0 && s.state() != x.state() {
			t.Fatal("sets that are made alike differ")
		}
	}
	before := x.state()
	ask := func(s *set) string {
		out := ""
		for _, root := range roots {
			for _, key := range []uint64{0, 3, 50, top} {
				out += fmt.Sprintln(tells(t, s.b, root, key, 90, 9))
			}
		}
		return out
	}
	first := ask(x)
	if x.state() != before || before != y.state() {
		t.Error("the base has changed")
	}
	if ask(x) != first || ask(y) != first {
		t.Error("the same is asked, and something else is answered")
	}
	for _, s := range []*set{x, y} {
		s.put(of(77))
		s.commit()
		s.put(of(78))
	}
	if x.state() != y.state() {
		t.Error("what is done behind the calls differs")
	}
}

// R4: a base keeps nothing that could be of old: what is written over, let go, taken back is told as it is then.
func TestNothingIsKept(t *testing.T) {
	x := start(t, 60)
	root := x.build(row(20, 3, 3), few, tight)
	kid := int(x.p[root].Vals[0])
	x.holds(root, rand.New(rand.NewSource(5)), 5)
	x.over(kid, of(3, 4, 5, 7))
	x.holds(root, rand.New(rand.NewSource(5)), 5)
	x.over(kid, of(3, 4))
	if find.Right(x.b, root) {
		t.Error("a kid has two keys, and the tree is right")
	}
	x.over(kid, of(3, 6, 9))
	x.commit()
	x.b.Down(root)
	x.b.Down(kid) // nobody refers to them: what they have they have still
	x.holds(root, rand.New(rand.NewSource(5)), 5)
	x.b.Back()
	fresh := x.put(of(5))
	has(t, x.b, fresh, 1)
	x.b.Back()
	refuses(t, x.b, fresh, api.ErrTree)
	x.holds(root, rand.New(rand.NewSource(5)), 5)
}

// Errors in their order: of a disk that is down nothing is told but what is fresh, and the tree without keys; what is no block is refused ahead of it.
func TestDown(t *testing.T) {
	x := start(t, 60)
	root := x.build(row(20, 3, 3), few, tight)
	single := x.put(of(5))
	other := x.data(make([]byte, 128))
	x.commit()
	before := fmt.Sprint(tells(t, x.b, root, 4, 40, 9), tells(t, x.b, single, 5, 40, 9))
	fresh := x.put(of(6, 8))
	bad := x.data(make([]byte, 128))
	x.fail()
	for at := 2; at < 60; at++ {
		if !x.b.Fresh(at) {
			refuses(t, x.b, at, api.ErrDown)
		}
	}
	for _, at := range append([]int{60, 61}, nowhere...) {
		refuses(t, x.b, at, api.ErrArg)
	}
	if n, e := find.Node(x.b, 0); e != api.ErrArg || !same(n, api.Node{}) {
		t.Error(n, e)
	}
	has(t, x.b, 0, 0)
	gets(t, x.b, 0, 5, 0, false)
	walks(t, x.b, 0, 0, top, 9)
	x.holds(fresh, rand.New(rand.NewSource(6)), 9)
	refuses(t, x.b, bad, api.ErrTree)
	x.d.Crash(api.Crash{Torn: -1})
	if after := fmt.Sprint(tells(t, x.b, root, 4, 40, 9), tells(t, x.b, single, 5, 40, 9)); after != before {
		t.Error(before, after)
	}
	refuses(t, x.b, other, api.ErrTree)
}

// A tree whose nodes are fresh in part, on a disk that is down: what can be read is told, what can't be is the disk's error, and beside it nothing.
func TestDownInPart(t *testing.T) {
	x := start(t, 60)
	one := x.put(of(13, 14, 15))
	two := x.put(of(23, 24, 25))
	x.commit()
	three := x.put(of(30, 31, 32))
	root := x.put(kids([]uint64{3, 13, 23}, three, one, two))
	x.over(three, of(3, 4, 5))
	x.holds(root, rand.New(rand.NewSource(7)), 9)
	all := x.p.items(root)
	x.fail()
	for _, key := range []uint64{0, 3, 4, 9, 12} {
		val, is := get(all, key)
		gets(t, x.b, root, key, val, is)
	}
	for _, key := range []uint64{13, 14, 22, 23, 24, top} {
		if val, is, e := find.Get(x.b, root, key); e != api.ErrDown || val != 0 || is {
			t.Error(key, val, is, e)
		}
	}
	for _, most := range []int{math.MinInt, -1, 0, 1, 2, 3} { // a walk is left where its reader has enough
		walks(t, x.b, root, 0, top, most, walk(all, 0, top, most)...)
	}
	walks(t, x.b, root, 0, 12, 99, walk(all, 0, 12, 99)...)
	for _, to := range []uint64{13, 22, top} {
		if l, e := find.Walk(x.b, root, 0, to, 4); e != api.ErrDown || len(l) != 0 {
			t.Error(to, l, e)
		}
	}
	if high, e := find.Height(x.b, root); high != 2 || e != api.OK {
		t.Error(high, e)
	}
	if find.Right(x.b, root) {
		t.Error("what can't be read is right")
	}
}

// A power that will go is not spent by what is read; what waits in the cache is read.
func TestArmed(t *testing.T) {
	x := start(t, 60)
	root := x.build(row(20, 3, 3), few, tight)
	x.commit()
	x.d.Write(40, page(of(8)))
	x.p[40] = of(8)
	x.d.Arm(1)
	for range 3 {
		x.holds(root, rand.New(rand.NewSource(8)), 9)
		x.holds(40, rand.New(rand.NewSource(8)), 9)
	}
	if e := x.d.Write(41, page(of(9))); e != api.OK {
		t.Error(e)
	}
	if e := x.d.Write(41, page(of(9))); e != api.ErrDown {
		t.Error(e)
	}
}

// A base that is broken is read as any other one.
func TestBroken(t *testing.T) {
	for n := range 8 {
		x := start(t, 60)
		was := x.build(row(20, 3, 3), few, tight)
		x.commit()
		root := x.build(row(9, 3, 3), few, tight)
		x.d.Arm(n)
		if e := x.b.Commit(); e == api.OK || !x.b.Broken() {
			t.Fatal(n, e)
		}
		x.holds(root, rand.New(rand.NewSource(9)), 9)
		refuses(t, x.b, was, api.ErrDown)
		x.d.Crash(api.Crash{Torn: -1})
		x.holds(root, rand.New(rand.NewSource(9)), 9)
		x.holds(was, rand.New(rand.NewSource(9)), 9)
	}
}

// What Commit has kept is told behind Open.
func TestOpened(t *testing.T) {
	rnd := rand.New(rand.NewSource(10))
	x := start(t, 400)
	var roots []int
	for i := range 8 {
		roots = append(roots, x.build(some(rnd, 1+20*i), chance(rnd), scattered(rnd)))
	}
	x.commit()
	x.again()
	for _, root := range roots {
		x.holds(root, rnd, 9)
	}
	if s := fmt.Sprint(find.Height(x.b, roots[0])); s != "1 0" {
		t.Error(s)
	}
}
