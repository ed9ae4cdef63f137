package share_test

import (
	"fmt"
	"math/rand"
	"slices"
	"testing"

	"catchment/api"
	"catchment/find"
	"catchment/own"
	"catchment/share"
	"catchment/tree"
)

// P16.3: no roots, the root 0, one root twice; a tree and its copy; two trees that share nothing, or something.
func TestBlocks(t *testing.T) {
	for _, form := range forms {
		for way := range ways {
			x := start(t, 300)
			for _, roots := range [][]int{nil, {}, {0}, {0, 0, 0}} {
				if l, e := share.Blocks(x.b, roots); len(l) > 0 || e != api.OK {
					t.Error(roots, l, e)
				}
			}
			r := x.stand(form, way)
			one := x.stands(r)
			if want := size(r.has); one != want {
				t.Fatal(one, want)
			}
			s := x.copies(r)
			apart := x.planted("((3 3 3) (3 3 3))")
			for what, c := range map[string]struct {
				roots []*root
				want  int
			}{
				"one twice":             {[]*root{r, r}, one},
				"one, and none":         {[]*root{{}, r, {}}, one},
				"a tree and its copy":   {[]*root{s, r}, one},
				"two that are apart":    {[]*root{r, apart}, one + 9},
				"two, and each a copy":  {[]*root{r, apart, s, r, {}, apart}, one + 9},
				"the other one, at two": {[]*root{apart, apart}, 9},
			} {
				if n := x.stands(c.roots...); n != c.want {
					t.Error(form, what, n, c.want)
				}
			}
			x.puts(s, 5, 0)
			if both, two := x.stands(r, s), x.stands(s); form != "none" && (both < one+1 || both > one+two || x.stands(s, r) != both) {
				t.Error(form, one, two, both)
			}
			x.all()
		}
	}
}

// size is how many nodes a plant has.
func size(p *plant) int {
	if p == nil {
		return 0
	}
	n := 1
	for _, kid := range p.kids {
		n += size(kid)
	}
	return n
}

// P16.3: nodes of which one tree has some at one level, and another one at another level; a root that stands below another one, told ahead of it, and behind it.
func TestBlocksWoven(t *testing.T) {
	x := start(t, 300)
	l := woven(x)
	for i, r := range l {
		for _, s := range l {
			x.stands(r, s)
			for _, u := range l[:i] {
				x.stands(r, s, u)
			}
		}
	}
	x.stands(x.kid(l[0], 3), l[0], x.kid(l[0], 4))
	x.stands(l[4], x.kid(l[4], 1))
	x.stands(x.kid(l[4], 1), l[4])
}

// P16.3: a wrong root, wherever it is told; a block of a tree that has no node.
func TestBlocksWrong(t *testing.T) {
	from := func() *set {
		x := start(t, 60)
		x.planted("(3 3)")
		x.commit()
		wrong(x)
		return x
	}
	x := start(t, 60)
	x.planted("(3 3)")
	x.commit()
	for what, c := range wrong(x) {
		changesNothing(t, "Blocks of "+what, from, func(x *set) {
			root := x.trees[0].at
			for _, roots := range [][]int{{c.at}, {c.at, root}, {root, c.at}, {0, root, c.at, root}, {c.at, c.at}, {0, 0, c.at}} {
				if l, e := share.Blocks(x.b, roots); len(l) > 0 || e != c.err {
					t.Error("Blocks of", what, roots, l, e)
				}
			}
		})
	}
	x = start(t, 300)
	woven(x)
	x.commit()
	for _, r := range x.trees {
		met := map[int]bool{}
		x.nodes(r.at, met)
		for at := range met {
			was := x.noughts(at)
			for _, roots := range [][]int{{r.at}, {0, x.trees[0].at, r.at}} {
				if l, e := share.Blocks(x.b, roots); len(l) > 0 || e != api.ErrTree {
					t.Error("Blocks of what can't be read:", l, e)
				}
			}
			x.is("Write", x.d.Write(at, was), api.OK)
		}
	}
	x.all()
}

// chain puts nodes, each of which has the one behind it as its only kid, and a leaf; the root is the first one.
func chain(x *set, levels int) []int {
	x.t.Helper()
	l := []int{x.put(of(7))}
	for len(l) < levels {
		l = append(l, x.put(kids(l[len(l)-1])))
	}
	slices.Reverse(l)
	return l
}

// P16.3: as many levels as there may be, and one more, in one of the trees, or in both.
func TestLevels(t *testing.T) {
	x := start(t, 200)
	short := x.put(of(0))
	for levels := 1; levels < 12; levels++ {
		one, two := chain(x, levels), chain(x, levels)
		want, keys := api.OK, []uint64{10}
		if levels > 8 {
			want, keys = api.ErrTree, nil
		}
		for _, c := range [][2]int{{one[0], 0}, {0, one[0]}, {one[0], short}, {short, one[0]}} {
			if l, e := share.Diff(x.b, c[0], c[1]); e != want || !slices.Equal(l, keys) {
				t.Error("Diff", levels, l, e)
			}
		}
		if l, e := share.Diff(x.b, one[0], two[0]); e != want || len(l) > 0 {
			t.Error("Diff", levels, l, e)
		}
		if l, e := share.Diff(x.b, one[0], one[levels/2]); e != want || len(l) > 0 {
			t.Error("Diff", levels, l, e)
		}
		for _, roots := range [][]int{one[:1], {0, one[0], short}, {one[0], two[0]}, {one[levels/2], one[0]}} {
			l, e := share.Blocks(x.b, roots)
			if e != want || want == api.OK && !slices.Contains(l, one[levels-1]) || want != api.OK && len(l) > 0 {
				t.Error("Blocks", levels, l, e)
			}
		}
		if levels <= 8 {
			l, e := share.Blocks(x.b, one[:1])
			slices.Sort(one)
			if e != api.OK || !slices.Equal(l, one) {
				t.Error("Blocks", l, one, e)
			}
		}
	}
}

// P16.1 to P16.3, R1: nodes that are below themselves; levels of nodes each of which refers to all of the level below: each call ends.
func TestRings(t *testing.T) {
	for size := 1; size < 5; size++ {
		x := start(t, 100)
		first := x.put(of(0))
		ring := []int{first}
		for len(ring) < size {
			ring = append(ring, x.put(kids(ring[len(ring)-1])))
		}
		x.is("Set", own.Set(x.b, first, kids(ring[size-1])), api.OK)
		other := x.put(kids(first))
		for _, at := range append(ring, other) {
			if l, e := share.Blocks(x.b, []int{at, 0, other}); e != api.ErrTree || len(l) > 0 {
				t.Error(l, e)
			}
			if l, e := share.Diff(x.b, at, 0); e != api.ErrTree || len(l) > 0 {
				t.Error(l, e)
			}
			share.Diff(x.b, other, at)
			if to, many, e := share.Cut(x.b, at, 0, last, never(t)); to != at || many != 0 || e != api.ErrTree {
				t.Error(to, many, e)
			}
		}
	}
	x := start(t, 400)
	var all, level []int
	for range 7 {
		level = append(level, x.put(of(0, 0, 0, 0, 0, 0, 0)))
	}
	for range 7 {
		var over []int
		for range 7 {
			over = append(over, x.put(kids(level...)))
		}
		for range 6 {
			x.up(level...)
		}
		all, level = append(all, level...), over
	}
	all = append(all, level...)
	slices.Sort(all)
	if l, e := share.Blocks(x.b, level); e != api.OK || !slices.Equal(l, all) {
		t.Error(l, e)
	}
	if l, e := share.Diff(x.b, level[0], level[6]); e != api.OK || len(l) > 0 {
		t.Error(l, e)
	}
	if l, e := share.Diff(x.b, level[0], 0); e != api.OK || !slices.Equal(l, row(7)) {
		t.Error(l, e)
	}
	for _, at := range level {
		share.Cut(x.b, at, 0, last, never(t))
	}
}

// counted holds what P16.4 says of counts: those of all blocks are the references that the nodes of Blocks have, and what one has oneself.
func (x *set) counted() {
	x.t.Helper()
	want := make([]int, x.b.Blocks())
	var roots []int
	for _, r := range x.trees {
		roots = append(roots, r.at)
		want[r.at]++
	}
	want[0] = 0
	for _, at := range slices.Concat(x.data, x.pages()) {
		want[at]++
	}
	l, e := share.Blocks(x.b, roots)
	x.is("Blocks", e, api.OK)
	for _, at := range l {
		n, e := find.Node(x.b, at)
		x.is("Node", e, api.OK)
		for _, val := range n.Vals {
			if val != 0 {
				want[val]++
			}
		}
	}
	if got := x.counts(); !slices.Equal(got, want) {
		x.t.Fatal("counts are", got, "not", want)
	}
}

// P16.4: trees that share nodes and data, copied, cut and changed by chance, with commits, and what was not committed taken back, between: each tells what a plain one tells, and so does each pair of what it differs in.
func TestByChance(t *testing.T) {
	told := map[string]int{}
	for seed := range 16 {
		rnd := rand.New(rand.NewSource(int64(seed)))
		x := start(t, []int{24, 28, 34, 400}[seed%4])
		x.put(of(0)) // so that pages stand where each later Commit may put them
		x.is("Back", x.b.Back(), api.OK)
		room := x.b.Room()
		x.some(3)
		x.plant(nil)
		x.commit()
		was := x.keep()
		for range 250 {
			r := x.trees[rnd.Intn(len(x.trees))]
			key := uint64(rnd.Intn([]int{30, 60, 200}[seed%3]))
			switch n := rnd.Intn(40); {
			case n < 22:
				if tree.May(x.b, r.at, key) == api.OK {
					x.puts(r, key, x.value(rnd))
				}
			case n < 28:
				told[x.triesCut(r, key, key+uint64(rnd.Intn(25)))]++
			case n == 28:
				told[x.triesCut(r, uint64(rnd.Intn(2)*10), last)]++
			case n < 32 && len(x.trees) < 6:
				x.copies(r)
			case n == 32 && len(x.trees) > 3:
				i := rnd.Intn(len(x.trees))
				x.is("Drop", own.Drop(x.b, x.trees[i].at, own.Let(x.b)), api.OK)
				x.trees = slices.Delete(x.trees, i, i+1)
			case n == 33:
				x.plant(nil)
			case n == 34:
				x.is("Back", x.b.Back(), api.OK)
				x.have(was)
			case n > 34:
				x.commit()
				if n == 35 {
					x.again()
				}
				was = x.keep()
			}
			if x.holds(); rnd.Intn(4) == 0 {
				x.all()
				x.counted()
			}
		}
		x.commit()
		for _, r := range x.trees { // an empty disk has room to drop; a Cut might have not
			x.is("Drop", own.Drop(x.b, r.at, own.Let(x.b)), api.OK)
		}
		x.trees = nil
		x.counted()
		for _, at := range x.data {
			x.is("Down", x.b.Down(at), api.OK)
		}
		x.commit()
		if x.b.Room() != room {
			t.Error(seed, "something is not free again:", x.b.Room(), room)
		}
	}
	for what, often := range map[string]int{"0 none": 100, "0 some": 100, "90 none": 50, "90 some": 5} {
		if told[what] < often {
			t.Error(what, "is told too seldom:", told)
		}
	}
}

// value is a value by chance: none, or data.
func (x *set) value(rnd *rand.Rand) uint64 {
	if rnd.Intn(4) == 0 {
		return 0
	}
	return uint64(x.data[rnd.Intn(len(x.data))])
}

// triesCut cuts a range, as far as there is room, and tells what was told. What was taken by then are the first keys of the range.
func (x *set) triesCut(r *root, from, to uint64) string {
	x.t.Helper()
	l, _ := r.has.within(from, to)
	at, many, e := share.Cut(x.b, r.at, from, to, own.Let(x.b))
	if many > len(l) || e != api.OK && e != api.ErrSpace || (e == api.OK) != (many == len(l)) || many == 0 && at != r.at {
		x.t.Fatal("Cut:", at, many, e, len(l))
	}
	for _, item := range l[:many] {
		r.has = r.has.take(item.Key)
	}
	r.at = at
	if many > 0 {
		return fmt.Sprint(int(e), " some")
	}
	return fmt.Sprint(int(e), " none")
}

// odd is a set of nodes by chance: of any values, at blocks of any counts, fresh and committed; some are trees.
func odd(t testing.TB, seed int) *set {
	rnd := rand.New(rand.NewSource(int64(seed)))
	x := start(t, []int{40, 60, 90}[seed%3])
	x.some(2)
	for range 4 + rnd.Intn(16) {
		n := api.Node{Leaf: rnd.Intn(3) > 0}
		key := uint64(rnd.Intn(30))
		for range 1 + rnd.Intn(7) {
			n.Keys = append(n.Keys, key)
			key += uint64(1 + rnd.Intn(20))
			val := uint64(rnd.Intn(12))
			if !n.Leaf {
				val = uint64(4 + rnd.Intn(18))
			}
			n.Vals = append(n.Vals, val)
		}
		own.Put(x.b, n) // it may be none: then nothing is put
		if rnd.Intn(6) == 0 {
			x.commit()
		}
	}
	for range rnd.Intn(12) {
		x.b.Up(4 + rnd.Intn(20))
	}
	for range rnd.Intn(4) {
		x.b.Down(4 + rnd.Intn(20))
	}
	if rnd.Intn(3) == 0 {
		x.commit()
	}
	if rnd.Intn(5) == 0 {
		x.fill(min(x.b.Room(), rnd.Intn(8)))
	}
	return x
}

// bent is a set with right trees that were changed by chance, so that they are not right, or that counts are not what references there are.
func bent(t testing.TB, seed int) *set {
	rnd := rand.New(rand.NewSource(int64(seed)))
	x := start(t, 90)
	forms := []string{"(3 3)", "(3 7 3)", "((3 3 3) (3 3 3))", "((3 7 3) (3 3 3 3 3 3) (7 3 3))", "((3 3 3) (3 3 3) (3 3 3))", "((7 3 3 3 3 3 3) (3 3 3 3))"}
	r := x.planted(forms[rnd.Intn(len(forms))])
	x.puts(x.copies(r), uint64(rnd.Intn(100)), 0)
	met := map[int]bool{}
	x.nodes(r.at, met)
	x.nodes(x.trees[1].at, met)
	var nodes []int
	for at := range x.b.Blocks() {
		if met[at] {
			nodes = append(nodes, at)
		}
	}
	for range 1 + rnd.Intn(4) {
		at := nodes[rnd.Intn(len(nodes))]
		n, e := find.Node(x.b, at)
		if e != api.OK { // it was let go
			continue
		}
		i, some := rnd.Intn(len(n.Keys)), uint64(nodes[rnd.Intn(len(nodes))])
		switch rnd.Intn(8) {
		case 0, 1, 2:
			n.Vals[i] = some
		case 3:
			n.Keys[i] += uint64(rnd.Intn(60)) - 30
		case 4:
			n.Keys, n.Vals = n.Keys[:i+1], n.Vals[:i+1]
		case 5:
			n.Vals[i] = uint64(rnd.Intn(92))
		case 6:
			x.b.Up(at)
		case 7:
			x.b.Down(at)
		}
		own.Set(x.b, at, n) // it may be none: then it stays as it is
		if rnd.Intn(8) == 0 {
			x.commit()
		}
	}
	for range rnd.Intn(3) {
		x.b.Up(nodes[rnd.Intn(len(nodes))])
	}
	if rnd.Intn(3) == 0 {
		x.commit()
	}
	return x
}

// P16.1 to P16.3, R1, R2, R4: of trees that are not right, or whose counts are not what references there are, each call ends; it tells the same again; beside an error all else is 0, and nothing has changed, but by a Cut that has taken something.
func TestNotRight(t *testing.T) {
	told := map[string]int{}
	for seed := range 1500 {
		rnd := rand.New(rand.NewSource(int64(seed)))
		from, one, two := func() *set { return odd(t, seed) }, 4+rnd.Intn(18), 4+rnd.Intn(18)
		if seed%2 == 1 {
			from = func() *set { return bent(t, seed) }
			x := from()
			one, two = x.trees[rnd.Intn(2)].at, x.trees[1].at
		}
		changesNothing(t, fmt.Sprint("Diff and Blocks ", seed), from, func(x *set) {
			told[fmt.Sprint("Diff ", same(t, func() ([]uint64, api.Errno) { return share.Diff(x.b, one, two) }))]++
			told[fmt.Sprint("Blocks ", same(t, func() ([]int, api.Errno) { return share.Blocks(x.b, []int{one, two, 0}) }))]++
		})
		unlessDone(t, fmt.Sprint("Copy ", seed), from, func(x *set) api.Errno {
			at, e := share.Copy(x.b, one)
			if told[fmt.Sprint("Copy ", int(e))]++; e == api.OK && at != one || e != api.OK && at != 0 {
				t.Error(at, e)
			}
			return e
		})
		begin := uint64(rnd.Intn(60))
		ends := [2]uint64{begin, begin + uint64(rnd.Intn(100))}
		var many int
		var e api.Errno
		x := from()
		before := x.state(false)
		at, many, e := share.Cut(x.b, one, ends[0], ends[1], own.Let(x.b))
		told[fmt.Sprint("Cut ", int(e), " ", min(many, 1))]++
		if many == 0 && (at != one || x.state(false) != before) {
			t.Fatal(seed, "Cut has changed something")
		}
	}
	for _, what := range []string{"Diff 0", "Diff 130", "Blocks 0", "Blocks 130", "Copy 0", "Copy 130", "Cut 0 0", "Cut 0 1", "Cut 130 0", "Cut 130 1", "Cut 82 1"} {
		if told[what] < 20 {
			t.Error(what, "is told too seldom:", told)
		}
	}
}

// same asks twice, and holds that the same is told: numbers that rise, or an error. It tells that.
func same[T int | uint64](t testing.TB, call func() ([]T, api.Errno)) int {
	t.Helper()
	l, e := call()
	again, no := call()
	if e != no || !slices.Equal(l, again) || e != api.OK && len(l) > 0 {
		t.Fatal(l, e, again, no)
	}
	for i := 1; i < len(l); i++ {
		if l[i] <= l[i-1] {
			t.Fatal("it does not rise:", l)
		}
	}
	return int(e)
}
