package own_test

import (
	"fmt"
	"math/rand"
	"slices"
	"testing"

	"catchment/api"
	"catchment/disk"
	"catchment/find"
	"catchment/own"
)

// tree is what a tree has, whatever blocks its nodes stand in.
type tree struct {
	node api.Node // of one that is no leaf the values are not its own
	kids []*tree
}

// clone is the same tree, apart from this one.
func (t *tree) clone() *tree {
	c := &tree{node: api.Node{Leaf: t.node.Leaf, Keys: slices.Clone(t.node.Keys), Vals: slices.Clone(t.node.Vals)}}
	for _, kid := range t.kids {
		c.kids = append(c.kids, kid.clone())
	}
	return c
}

// high is how many levels it has.
func (t *tree) high() int {
	n := 0
	for _, kid := range t.kids {
		n = max(n, kid.high())
	}
	return n + 1
}

// root is a reference that one has to a tree, and what that has.
type root struct {
	at  int
	has *tree
}

// grove is a base in which trees share nodes and data, and the references that one has: to roots, to data.
type grove struct {
	*set
	rnd              *rand.Rand
	roots, rootsWere []root
	mine, mineWere   []int // data
	refused          int   // how often there was no room
}

// reads holds what a tree tells, node by node.
func (g *grove) reads(at int, want *tree) {
	g.t.Helper()
	n, e := find.Node(g.b, at)
	if e != api.OK || n.Leaf != want.node.Leaf || !slices.Equal(n.Keys, want.node.Keys) || n.Leaf && !slices.Equal(n.Vals, want.node.Vals) {
		g.t.Fatalf("Node(%d): %v %v, not %v", at, n, e, want.node)
	}
	for i, kid := range want.kids {
		g.reads(int(n.Vals[i]), kid)
	}
}

// recount holds each block's count against how many references there are to it (P14.4): from roots and to data that one has, and from each node that some root leads to.
func (g *grove) recount() {
	g.t.Helper()
	want := make([]int, g.b.Blocks())
	var todo []int
	for _, r := range g.roots {
		want[r.at]++
		todo = append(todo, r.at)
	}
	for _, at := range g.mine {
		want[at]++
	}
	for _, at := range g.p.pages {
		want[at]++
	}
	for met := map[int]bool{}; len(todo) > 0; todo = todo[1:] {
		if met[todo[0]] {
			continue
		}
		met[todo[0]] = true
		n, e := find.Node(g.b, todo[0])
		if e != api.OK {
			g.t.Fatal(todo[0], e)
		}
		for _, val := range n.Vals {
			if val == 0 {
				continue
			}
			want[val]++
			if !n.Leaf {
				todo = append(todo, int(val))
			}
		}
	}
	for at := range want {
		if n := g.b.Count(at); n != want[at] {
			g.t.Fatalf("Count(%d): %d, not %d", at, n, want[at])
		}
	}
}

// holds holds all that there is.
func (g *grove) holds() {
	g.t.Helper()
	g.tells()
	g.recount()
	for _, r := range g.roots {
		g.reads(r.at, r.has)
	}
}

// value is a value for a leaf: none, new data, or such as there are already.
func (g *grove) value() uint64 {
	switch g.rnd.Intn(4) {
	case 0:
		return 0
	case 1:
		if len(g.mine) > 0 {
			at := g.mine[g.rnd.Intn(len(g.mine))]
			g.up(at)
			return uint64(at)
		}
	}
	if g.b.Room() == 0 {
		return 0
	}
	at := g.data(mixed(g.rnd.Intn(200)))
	if g.rnd.Intn(3) == 0 {
		g.up(at)
		g.mine = append(g.mine, at)
	}
	return uint64(at)
}

// grow puts a leaf.
func (g *grove) grow() {
	var l []uint64
	for range g.rnd.Intn(8) {
		l = append(l, g.value())
	}
	if g.b.Room() > 0 {
		at := g.put(of(l...))
		g.roots = append(g.roots, root{at, &tree{node: of(slices.Clone(l)...)}})
		return
	}
	for _, val := range l {
		if val != 0 {
			g.down(int(val))
		}
	}
}

// join puts a node over some trees, no two of which begin at the same block.
func (g *grove) join() {
	var l []int
	over := &tree{}
	var left []root
	many := 1 + g.rnd.Intn(7)
	for _, r := range g.roots {
		if len(l) < many && !slices.Contains(l, r.at) && r.has.high() < 6 && g.rnd.Intn(2) == 0 {
			l, over.kids = append(l, r.at), append(over.kids, r.has)
		} else {
			left = append(left, r)
		}
	}
	if len(l) == 0 || g.b.Room() == 0 {
		return
	}
	over.node = api.Node{Keys: row(len(l))}
	g.roots = append(left, root{g.put(kids(l...)), over})
}

// share has one more reference to a tree.
func (g *grove) share() {
	if len(g.roots) == 0 {
		return
	}
	r := g.roots[g.rnd.Intn(len(g.roots))]
	g.up(r.at)
	g.roots = append(g.roots, root{r.at, r.has.clone()})
}

// change owns a way down a tree, as far as there is room, and lets a leaf have other values.
func (g *grove) change() {
	if len(g.roots) == 0 {
		return
	}
	r := &g.roots[g.rnd.Intn(len(g.roots))]
	at, e := g.own(r.at)
	if e == api.ErrSpace {
		g.refused++
		return
	}
	g.is("Own", e, api.OK)
	r.at = at
	has := r.has
	for {
		g.recount()
		n, _ := find.Node(g.b, at)
		if n.Leaf {
			break
		}
		i := g.rnd.Intn(len(n.Vals))
		kid, e := g.own(int(n.Vals[i]))
		if e == api.ErrSpace {
			g.refused++
			return
		}
		g.is("Own", e, api.OK)
		n.Vals[i] = uint64(kid)
		g.is("Set", g.over(at, n), api.OK)
		at, has = kid, has.kids[i]
	}
	g.turn(at, has)
}

// turn lets a leaf that is one's own have other values.
func (g *grove) turn(at int, has *tree) {
	n, _ := find.Node(g.b, at)
	was := slices.Clone(n.Vals)
	for i := range n.Vals {
		if g.rnd.Intn(2) == 0 {
			n.Vals[i] = g.value()
		} else {
			was[i] = 0
		}
	}
	g.is("Set", g.over(at, n), api.OK)
	for _, val := range was {
		if val != 0 {
			g.is("Let", own.Let(g.b)(val), api.OK)
			g.is("Down", g.p.refer(int(val), -1), api.OK)
		}
	}
	copy(has.node.Vals, n.Vals)
}

// lose lets a tree go, or data.
func (g *grove) lose() {
	if i := g.rnd.Intn(len(g.mine) + 1); i < len(g.mine) && g.rnd.Intn(2) == 0 {
		g.down(g.mine[i])
		g.mine = slices.Delete(g.mine, i, i+1)
	}
	if len(g.roots) == 0 {
		return
	}
	i := g.rnd.Intn(len(g.roots))
	_, e := g.drop(g.roots[i].at, 0, api.OK)
	g.is("Drop", e, api.OK)
	g.roots = slices.Delete(g.roots, i, i+1)
}

// keep commits, or takes back, what was done, and opens the disk anew at times.
func (g *grove) keep() {
	switch g.rnd.Intn(3) {
	case 0:
		g.back()
		g.roots, g.mine = clones(g.rootsWere), slices.Clone(g.mineWere)
		return
	case 1:
		g.commit()
		g.again()
	default:
		g.commit()
	}
	g.rootsWere, g.mineWere = clones(g.roots), slices.Clone(g.mine)
}

func clones(l []root) []root {
	var out []root
	for _, r := range l {
		out = append(out, root{r.at, r.has.clone()})
	}
	return out
}

// P14.4: trees that share nodes and data, changed by chance: each count is how many references there are, and each tree tells what it told, but for what was changed in it. At the end all are dropped, and all is free again.
func TestCountsAreReferences(t *testing.T) {
	refusals := 0
	for seed := range 12 {
		blocks := []int{60, 90, 150, 400}[seed%4]
		g := &grove{set: start(t, blocks), rnd: rand.New(rand.NewSource(int64(seed)))}
		g.put(of()) // so that pages stand where each later Commit may put them
		g.back()
		room := g.b.Room()
		for range 250 {
			switch g.rnd.Intn(12) {
			case 0, 1:
				g.grow()
			case 2, 3:
				g.join()
			case 4:
				g.share()
			case 5, 6, 7, 8, 9:
				g.change()
			case 10:
				g.lose()
			case 11:
				g.keep()
			}
			g.holds()
		}
		refusals += g.refused
		for len(g.roots)+len(g.mine) > 0 {
			g.lose()
			g.holds()
		}
		g.commit()
		if g.b.Room() != room {
			t.Error(seed, "something is not free again:", g.b.Room(), room)
		}
	}
	if refusals < 10 {
		t.Error("there was room too often:", refusals)
	}
}

// P14.1 to P14.3, R2: nodes of any values at blocks of any counts, changed by chance, also such as are no trees: all calls tell what the words say, and do just that.
func TestAnyNodes(t *testing.T) {
	told := map[string]int{}
	for seed := range 60 {
		rnd := rand.New(rand.NewSource(int64(seed)))
		x := start(t, []int{16, 30, 60}[seed%3])
		x.upTo(x.data(mixed(1)), api.MaxRef-rnd.Intn(3))
		for range 150 {
			x.any(rnd, told)
		}
		x.tells()
	}
	for _, what := range []string{"Set 0", "Set 110", "Own 0", "Own 2", "Own 81", "Own 82", "Own 90", "Own 130", "Drop 0", "Drop 2", "Drop 82", "Drop 130", "Drop 999"} {
		if told[what] < 10 {
			t.Error(what, "is told too seldom:", told)
		}
	}
}

// any does something by chance, and notes what is told.
func (x *set) any(rnd *rand.Rand, told map[string]int) {
	x.t.Helper()
	at := x.anyBlock(rnd)
	switch rnd.Intn(24) {
	case 0, 1, 2, 3, 4:
		if x.b.Room() > 0 {
			x.put(anyNode(rnd, x.b.Blocks()))
		}
	case 5:
		if x.b.Room() > 0 {
			x.data(mixed(rnd.Intn(100)))
		}
	case 6, 7:
		if is := own.Is(x.b, at); is != x.p.mine(at) {
			x.t.Fatalf("Is(%d): %v", at, is)
		}
	case 8, 9, 10:
		told[fmt.Sprint("Set ", x.over(at, anyNode(rnd, x.b.Blocks())))]++
	case 11, 12, 13, 14, 15:
		_, e := x.own(at)
		told[fmt.Sprint("Own ", e)]++
	case 16:
		_, e := x.drop(at, rnd.Intn(4), refused)
		told[fmt.Sprint("Drop ", e)]++
	case 17, 18, 19, 20, 21:
		if n := x.b.Count(at); n > 0 && n < 3 {
			x.up(at)
		}
	case 22:
		if n := x.b.Count(at); n > 0 {
			x.down(at)
		}
	case 23:
		switch rnd.Intn(4) {
		case 0:
			x.back()
		case 1:
			x.commit()
		}
	}
}

// anyBlock is a block that has a node, mostly; or any one; or none.
func (x *set) anyBlock(rnd *rand.Rand) int {
	for range 20 * rnd.Intn(4) {
		at := rnd.Intn(x.b.Blocks())
		if _, e := x.p.node(at); e == api.OK {
			return at
		}
	}
	return rnd.Intn(x.b.Blocks()+2) - 1
}

// anyNode is a node of any values; those of most leaves are blocks that are handed out early, or nothing.
func anyNode(rnd *rand.Rand, blocks int) api.Node {
	if rnd.Intn(3) > 0 {
		var l []uint64
		for range rnd.Intn(8) {
			l = append(l, uint64(max(0, rnd.Intn(10)-2)))
		}
		if len(l) > 0 && rnd.Intn(8) == 0 {
			l[0] = uint64(rnd.Intn(blocks + 4))
		}
		return of(l...)
	}
	l := rnd.Perm(min(blocks, 12) + rnd.Intn(3))[:1+rnd.Intn(3)]
	for i := range l {
		l[i]++
	}
	return kids(l...)
}

// P14.1 to P14.3: without power all that is fresh is changed as ever, and what the disk has can't be read.
func TestWithoutPower(t *testing.T) {
	x := start(t, 60)
	l := x.some(3)
	old, shared := x.put(leafOf(l...)), x.put(leafOf(l[0]))
	x.up(shared, l[0])
	x.commit()
	leaf, node := x.put(leafOf(l[1], l[2])), x.put(kids(old))
	x.up(leaf, l[1], l[2])
	over := x.put(kids(leaf, node))
	before := x.state(false)
	x.fail()
	for _, at := range []int{old, shared, 2, 3, 59} {
		x.mine(at, false)
		if to, e := x.own(at); to != 0 || e != api.ErrDown {
			t.Error(at, to, e)
		}
		x.is("Set", x.over(at, of()), api.ErrKept)
		if l, e := x.drop(at, 0, api.OK); len(l) > 0 || e != api.ErrDown {
			t.Error(at, l, e)
		}
	}
	for _, at := range []int{0, 1, 60, -1} {
		if _, e := x.own(at); e != api.ErrArg {
			t.Error(at, e)
		}
	}
	x.power()
	if x.state(false) != before {
		t.Error("something has changed")
	}
	x.fail()
	x.mine(over, true)
	x.owned(leaf)
	x.counts(3, l[1:]...)
	x.is("Set", x.over(node, kids(old, leaf)), api.OK)
	x.put(of())
	x.is("Set", x.over(node, kids(old)), api.OK)
	asked, e := x.drop(over, 0, api.OK) // the leaf goes, then the node; its kid can't be read
	if e != api.ErrDown || !slices.Equal(asked, vals(l[1:])) {
		t.Error(asked, e)
	}
	x.counts(0, over, leaf, node)
	x.counts(1, old)
}

// P14.1 to P14.3: what a disk that is none any more tells is told, and nothing changes; what is fresh is changed as ever.
func TestDiskIsNone(t *testing.T) {
	x := start(t, 60)
	l := x.some(2)
	old := x.put(leafOf(l...))
	x.commit()
	mine := x.put(kids(old))
	*x.d = disk.Disk{}
	x.is("Drop", own.Drop(x.b, old, never(t)), api.ErrNil)
	if to, e := own.Own(x.b, old); to != 0 || e != api.ErrNil || own.Is(x.b, old) {
		t.Error(to, e)
	}
	x.counts(1, append(l, old, mine)...)
	if to, e := own.Own(x.b, mine); to != mine || e != api.OK || !own.Is(x.b, mine) {
		t.Error(to, e)
	}
	x.is("Set", own.Set(x.b, mine, of(uint64(old))), api.OK)
	x.is("Drop", own.Drop(x.b, mine, own.Let(x.b)), api.OK)
	x.counts(0, mine, old)
}

// P14.1 to P14.3: a base that is broken tells what is one's own, and changes nothing, with power or without; errors that are named first are told first.
func TestBroken(t *testing.T) {
	x := start(t, 60)
	l := x.some(3)
	x.upTo(l[2], api.MaxRef)
	old, gone := x.put(leafOf(l...)), x.put(of())
	x.commit()
	x.down(gone)
	mine, empty := x.put(leafOf(l[0])), x.put(of(0))
	shared, full := x.put(leafOf(l[1])), x.put(leafOf(l[2]))
	x.up(empty, shared, full, mine)
	x.down(mine)
	x.breaks()
	before := x.state(false)
	for powered := range 2 {
		if e := own.Let(x.b)(uint64(l[0])); e != api.ErrBroken {
			t.Error(e)
		}
		if at, e := own.Put(x.b, of()); at != 0 || e != api.ErrBroken {
			t.Error(at, e)
		}
		x.mine(mine, true)
		x.is("Set", x.over(mine, of()), api.ErrBroken)
		if to, e := x.own(mine); to != mine || e != api.OK {
			t.Error(to, e)
		}
		for at, want := range map[int]api.Errno{empty: api.ErrBroken, shared: api.ErrTree, full: api.ErrRef} {
			x.mine(at, false)
			x.is("Set", x.over(at, of()), api.ErrKept)
			if to, e := x.own(at); to != 0 || e != want {
				t.Error(at, to, e)
			}
		}
		for _, at := range []int{mine, empty, shared, full, old, gone} {
			want, free := api.ErrBroken, api.ErrArg
			if (at == old || at == gone) && powered == 0 {
				want, free = api.ErrDown, api.ErrDown
			}
			if l, e := x.drop(at, 0, api.OK); len(l) > 0 || e != want {
				t.Error(at, l, e)
			}
			x.is("Drop without free", own.Drop(x.b, at, nil), free)
			if at == old || at == gone {
				if to, e := x.own(at); to != 0 || e != want {
					t.Error(at, to, e)
				}
			}
		}
		if x.state(false) != before {
			t.Fatal("something has changed")
		}
		x.power()
		before = x.state(false)
	}
}
