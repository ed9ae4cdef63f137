package own_test

import (
	"fmt"
	"math"
	"slices"
	"testing"

	"catchment/api"
	"catchment/own"
)

const refused api.Errno = 999 // what a free of these tests answers that does not let go

// never is a free that may not be asked.
func never(t testing.TB) func(uint64) api.Errno {
	return func(val uint64) api.Errno {
		t.Error("free is asked of", val)
		return refused
	}
}

// P14.3: the block 0 is nothing, whatever free is, and however the base is.
func TestDropNought(t *testing.T) {
	for _, from := range []func() *set{
		func() *set { return start(t, 16) },
		func() *set { x := start(t, 16); x.fail(); return x },
		func() *set { x := start(t, 16); x.put(of(0)); x.breaks(); return x },
	} {
		for _, free := range []func(uint64) api.Errno{nil, never(t)} {
			changesNothing(t, "Drop of nothing", from, func(x *set) {
				x.is("Drop(0)", own.Drop(x.b, 0, free), api.OK)
			})
		}
	}
}

// P14.3: what is no node is not let go. That there is no free is told behind that, and ahead of all else.
func TestDropNone(t *testing.T) {
	from := func() *set { x := start(t, 60); blocksOf(x); return x }
	for what, at := range blocksOf(start(t, 60)) {
		_, e := from().p.node(at)
		changesNothing(t, "Drop of "+what+" without free", from, func(x *set) {
			want := api.ErrArg
			if e != api.OK {
				want = api.ErrTree
			}
			x.is("Drop of "+what, own.Drop(x.b, at, nil), want)
		})
		if e == api.OK {
			continue
		}
		changesNothing(t, "Drop of "+what, from, func(x *set) {
			x.is("Drop of "+what, own.Drop(x.b, at, never(t)), api.ErrTree)
		})
	}
	for _, at := range append([]int{60, 61}, nowhere...) {
		if at == 0 {
			continue
		}
		for _, free := range []func(uint64) api.Errno{nil, never(t)} {
			changesNothing(t, "Drop of no block", from, func(x *set) {
				x.is(fmt.Sprint("Drop of ", at), own.Drop(x.b, at, free), api.ErrArg)
			})
		}
	}
	x := from()
	x.fail()
	for _, free := range []func(uint64) api.Errno{nil, never(t)} {
		for at := 2; at < 60; at++ {
			if x.p.fresh[at] == nil {
				x.is("Drop without power", own.Drop(x.b, at, free), api.ErrDown)
			}
		}
	}
	x.tells()
}

// P14.3: a node to which nobody refers any more is there till the next commit; it can't be let go again.
func TestDropLetGo(t *testing.T) {
	from := func() *set {
		x := start(t, 60)
		at := x.put(leafOf(x.some(2)...))
		x.commit()
		x.down(at)
		return x
	}
	const leaf = 6
	changesNothing(t, "Drop of what was let go", from, func(x *set) {
		x.is("Drop", own.Drop(x.b, leaf, never(t)), api.ErrCount)
	})
	x := from()
	x.commit()
	x.has(leaf, leafOf(4, 5))
	if l, e := x.drop(leaf, 0, api.OK); len(l) > 0 || e != api.ErrCount {
		t.Error(l, e)
	}
}

// P14.3: leaves of any values. Free is asked of each that is not 0, one by one, as they stand.
func TestDropLeaf(t *testing.T) {
	for _, committed := range []bool{false, true} {
		x := start(t, 100)
		for n := range 8 {
			l := x.some(n)
			at := x.put(leafOf(l...))
			if committed {
				x.commit()
			}
			x.dropped(at, vals(l)...)
			x.counts(0, append(l, at)...)
			x.mine(at, false)
		}
		l := x.some(2)
		a, b := uint64(l[0]), uint64(l[1])
		x.up(l[0], l[0], l[0], l[0], l[1])
		for _, c := range []struct{ vals, asked []uint64 }{
			{[]uint64{0}, nil},
			{[]uint64{0, 0, 0, 0, 0, 0, 0}, nil},
			{[]uint64{0, a}, []uint64{a}},
			{[]uint64{b, 0}, []uint64{b}},
			{[]uint64{0, b, 0, a, a, 0}, []uint64{b, a, a}},
			{[]uint64{a}, []uint64{a}},
		} {
			at := x.put(of(c.vals...))
			if committed {
				x.commit()
			}
			x.dropped(at, c.asked...)
			x.counts(0, at)
		}
		x.counts(1, l[0])
		x.counts(0, l[1])
	}
}

// P14.3: values are free's alone: they need be no blocks.
func TestDropOddValues(t *testing.T) {
	x := start(t, 60)
	odd := []uint64{1, 2, 59, 60, 4096, 1<<32 + 4, 1<<64 - 1}
	at := x.put(of(odd...))
	before := slices.Clone(x.p.now)
	var asked []uint64
	x.is("Drop", own.Drop(x.b, at, func(val uint64) api.Errno { asked = append(asked, val); return api.OK }), api.OK)
	if !slices.Equal(asked, odd) {
		t.Error(asked)
	}
	x.onlyDown(at, before)
	for _, val := range odd { // own.Let has such a one for none
		at := x.put(of(0, val))
		if l, e := x.drop(at, 0, api.OK); (e != api.ErrArg && e != api.ErrCount) || len(l) != 1 {
			t.Error(val, l, e)
		}
	}
}

// onlyDown takes into the words that a node was let go, and nothing else.
func (x *set) onlyDown(at int, before []int) {
	x.t.Helper()
	x.p.now = before
	x.is("Down", x.p.refer(at, -1), api.OK)
	x.tells()
}

// P14.3: a leaf, or a node, to which others refer, too, goes down alone.
func TestDropShared(t *testing.T) {
	for _, committed := range []bool{false, true} {
		x := start(t, 100)
		l := x.some(2)
		leaf := x.put(leafOf(l...))
		node := x.put(kids(leaf))
		x.up(node, node, leaf)
		if committed {
			x.commit()
		}
		for n := 3; n > 1; n-- {
			x.counts(n, node)
			x.dropped(node)
			x.counts(2, leaf)
			x.has(node, kids(leaf))
		}
		x.dropped(node)
		x.counts(0, node)
		x.counts(1, append(l, leaf)...)
		x.has(leaf, leafOf(l...))
		x.dropped(leaf, vals(l)...)
		x.counts(0, append(l, leaf)...)
	}
}

// tall puts a tree of so many levels in which each node has that many kids, or values; it tells all nodes, the root last, and all data, as they stand.
func (x *set) tall(levels, many int) (nodes, data []int) {
	x.t.Helper()
	if levels == 1 {
		data = x.some(many)
		return []int{x.put(leafOf(data...))}, data
	}
	var l []int
	for range many {
		n, d := x.tall(levels-1, many)
		nodes, data, l = append(nodes, n...), append(data, d...), append(l, n[len(n)-1])
	}
	return append(nodes, x.put(kids(l...))), data
}

// P14.3: trees of some levels; part of them committed, part of them fresh.
func TestDropTree(t *testing.T) {
	for levels := 1; levels < 5; levels++ {
		for _, many := range []int{1, 2, 3} {
			for _, committed := range []bool{false, true} {
				x := start(t, 400)
				x.put(of(0))
				x.commit()
				room := x.b.Room()
				nodes, data := x.tall(levels, many)
				root := nodes[len(nodes)-1]
				if committed {
					x.commit()
					root = x.owned(root)
				}
				x.dropped(root, vals(data)...)
				x.counts(0, slices.Concat(nodes, data, []int{root})...)
				x.commit()
				if x.b.Room() != room {
					t.Error("something is not free again:", x.b.Room(), room)
				}
			}
		}
	}
}

// P14.3: kids that are shared go down alone, whatever is beside them.
func TestDropSharedKids(t *testing.T) {
	for mask := range 8 {
		x := start(t, 100)
		var leaves, all, freed []int
		for i := range 3 {
			l := x.some(2)
			leaves = append(leaves, x.put(leafOf(l...)))
			all = append(all, l...)
			if mask>>i&1 == 1 {
				x.up(leaves[i])
			} else {
				freed = append(freed, l...)
			}
		}
		root := x.put(kids(x.put(kids(leaves...))))
		x.dropped(root, vals(freed)...)
		x.counts(0, freed...)
		for i, leaf := range leaves {
			x.counts(mask>>i&1, all[2*i], all[2*i+1], leaf)
		}
	}
}

// P14.3: a free that answers an error, at each value of a tree of two levels: what was let go by then stays so, all else stays.
func TestDropFreeFails(t *testing.T) {
	for _, e := range []api.Errno{refused, -1, api.ErrNil, api.ErrTree, api.ErrBroken} {
		for nth := range 9 {
			x := start(t, 100)
			nodes, data := x.tall(2, 3)
			root := nodes[3]
			l, no := x.drop(root, nth, e)
			if no != e || !slices.Equal(l, vals(data[:nth+1])) {
				t.Fatal(nth, no, l)
			}
			x.counts(0, data[:nth]...)
			x.counts(1, data[nth:]...)
			x.counts(0, root)
			for i, leaf := range nodes[:3] {
				if i <= nth/3 {
					x.counts(0, leaf)
				} else {
					x.counts(1, leaf)
				}
			}
		}
	}
}

// P14.3: a kid that can't be let go, as the first, a middle, the last one: what is ahead of it is let go, what is behind stays.
func TestDropKidFails(t *testing.T) {
	for i := range 3 {
		for what, want := range map[string]api.Errno{
			"noughts": api.ErrTree, "data": api.ErrTree, "data, shared": api.ErrTree, "a page": api.ErrTree,
			"1": api.ErrArg, "the number of blocks": api.ErrArg, "4095": api.ErrArg, "a leaf, let go": api.ErrCount,
		} {
			x := start(t, 100)
			gone := x.put(leafOf(99))
			x.commit()
			x.down(gone)
			x.commit()
			x.has(gone, leafOf(99))
			bad := map[string]int{"noughts": 99, "data": x.data(mixed(1)), "data, shared": x.data(mixed(2)), "a page": x.p.pages[0], "1": 1, "the number of blocks": 100, "4095": 4095, "a leaf, let go": gone}[what]
			if what == "data, shared" {
				x.up(bad)
			}
			nodes, data := x.tall(2, 3)
			x.is("Set", x.over(nodes[3], kids(slices.Insert(slices.Clone(nodes[:3]), i, bad)...)), api.OK)
			root := x.put(kids(nodes[3]))
			l, e := x.drop(root, 0, api.OK)
			if e != want || !slices.Equal(l, vals(data[:3*i])) {
				t.Fatalf("kid %d is %s: %v %v", i, what, e, l)
			}
			x.counts(0, slices.Concat(nodes[:i], data[:3*i], []int{root, nodes[3]})...)
			x.counts(1, slices.Concat(nodes[i:3], data[3*i:])...)
		}
	}
}

// P14.3: trees as deep as may be, and deeper ones: MaxHigh levels are let go, nothing below them is touched, nor read.
func TestDropDeep(t *testing.T) {
	for levels := 1; levels < 12; levels++ {
		for _, shared := range []int{0, 8, 9} { // which level is shared
			x := start(t, 100)
			data := x.some(1)
			chain := []int{x.put(leafOf(data...))}
			for len(chain) < levels {
				chain = append(chain, x.put(kids(chain[len(chain)-1])))
			}
			slices.Reverse(chain) // the root first
			if shared > levels {
				continue
			}
			if shared > 0 {
				x.up(chain[shared-1])
			}
			l, e := x.drop(chain[0], 0, api.OK)
			switch {
			case shared == 8:
				x.is("Drop", e, api.OK)
				x.counts(0, chain[:7]...)
				x.counts(1, append(chain[7:], data...)...)
			case levels > 8:
				x.is("Drop", e, api.ErrTree)
				x.counts(0, chain[:8]...)
				if shared == 9 {
					x.counts(2, chain[8])
					x.down(chain[8])
				}
				x.counts(1, append(chain[8:], data...)...)
			default:
				x.is("Drop", e, api.OK)
				x.counts(0, append(chain, data...)...)
				continue
			}
			if len(l) > 0 {
				t.Error(levels, shared, l)
			}
		}
	}
	for _, what := range []int{59, 60, 1, 4095, 2} { // what stands on the ninth level
		x := start(t, 60)
		at := what
		for range 8 {
			at = x.put(kids(at))
		}
		_, e := x.drop(at, 0, api.OK)
		x.is("Drop", e, api.ErrTree)
	}
	x := start(t, 60)
	at := x.put(of(0))
	x.commit()
	ninth := at
	for range 8 {
		at = x.put(kids(at))
	}
	x.fail()
	_, e := x.drop(at, 0, api.OK)
	x.is("Drop, without power for the ninth level", e, api.ErrTree)
	x.counts(1, ninth)
}

// P14.3: nodes that are below themselves. Each one is gone through once at most, as it is let go once.
func TestDropRings(t *testing.T) {
	for _, committed := range []bool{false, true} {
		for count := 1; count < 5; count++ {
			for size := 1; size < 4; size++ {
				x := start(t, 60)
				first := x.put(of(0))
				last := first
				for range size - 1 {
					last = x.put(kids(last))
				}
				x.is("Set", x.over(first, kids(last)), api.OK)
				for range count - 1 {
					x.up(last)
				}
				if committed {
					x.commit()
				}
				for n := count; n > 1; n-- {
					x.counts(n, last)
					x.dropped(last)
				}
				l, e := x.drop(last, 0, api.OK)
				want := api.ErrTree // what was fresh says noughts then
				if committed {
					want = api.ErrCount
				}
				if e != want || len(l) > 0 {
					t.Error(committed, count, size, l, e)
				}
			}
		}
	}
	x := start(t, 60)
	at := x.put(of(0))
	data := x.some(1)
	x.over(at, kids(at, x.put(leafOf(data...))))
	for range 30 {
		x.up(at)
	}
	for range 30 {
		x.dropped(at)
	}
}

// P14.3: eight levels of seven nodes, each of which refers to all of the level below: there are more ways down than can be gone, and none is gone twice.
func TestDropManyWays(t *testing.T) {
	x := start(t, 400)
	data := x.some(1)[0]
	x.up(slices.Repeat([]int{data}, 6)...)
	var all, level []int
	for range 7 {
		level = append(level, x.put(leafOf(data)))
	}
	for range 7 {
		var over []int
		for range 7 {
			over = append(over, x.put(kids(level...)))
		}
		x.up(slices.Repeat(level, 6)...)
		all, level = append(all, level...), over
	}
	for _, root := range level[:6] {
		x.dropped(root)
	}
	x.counts(7, all[:42]...)
	x.counts(1, all[42:]...)
	x.dropped(level[6], slices.Repeat([]uint64{uint64(data)}, 7)...)
	x.counts(0, append(all, data)...)
}

// P14.3: Let takes one reference of a block, and tells what base.Down tells.
func TestLet(t *testing.T) {
	x := start(t, 60)
	let := own.Let(x.b)
	all := blocksOf(x)
	for _, what := range []string{"data", "data of noughts", "data of old", "own: a leaf", "a fresh leaf, shared often", "a committed node, shared"} {
		at := all[what]
		for n := x.b.Count(at); n > 0; n-- {
			x.counts(n, at)
			x.is("Let of "+what, let(uint64(at)), api.OK)
			x.is("Down", x.p.refer(at, -1), api.OK)
		}
		x.tells()
		x.is("Let of "+what, let(uint64(at)), api.ErrCount)
		x.tells()
	}
	for _, what := range []string{"noughts", "a committed leaf, let go", "a fresh leaf, let go"} {
		x.is("Let of "+what, let(uint64(all[what])), api.ErrCount)
	}
	for _, val := range []uint64{0, 1, uint64(x.p.pages[0]), uint64(x.p.pages[1]), 60, 61, 4095, 4096, 4097, 1<<16 + 4, 1<<32 + 4, math.MaxInt64, 1 << 63, 1<<63 + 4, math.MaxUint64 - 3, math.MaxUint64} {
		x.is(fmt.Sprint("Let of ", val), let(val), api.ErrArg)
	}
	x.tells()
	x.back()
	at := x.some(1)[0] // it holds of whatever the base is by then
	x.is("Let", let(uint64(at)), api.OK)
	x.is("Down", x.p.refer(at, -1), api.OK)
	x.tells()
	y := start(t, 60)
	y.some(1)
	x.some(1)
	x.is("Let", own.Let(y.b)(4), api.OK)
	x.tells() // the other base's
}

// P14.3, R1: frees that do something else. None is asked twice of one value, and all ends.
func TestDropOddFrees(t *testing.T) {
	x := start(t, 100)
	lower, data := x.tall(2, 2)
	trees := x.put(of(uint64(lower[2]), 0))
	x.is("Drop", own.Drop(x.b, trees, func(val uint64) api.Errno { return own.Drop(x.b, int(val), own.Let(x.b)) }), api.OK)
	for _, at := range slices.Concat(lower, data, []int{trees}) {
		x.counts(0, at)
	}
	x = start(t, 100)
	l := x.some(3)
	leaf := x.put(leafOf(l...))
	x.commit()
	x.is("Drop", own.Drop(x.b, leaf, func(val uint64) api.Errno { // refers to what was let go
		x.is("Up", x.b.Up(leaf), api.ErrCount)
		_, e := own.Own(x.b, leaf)
		x.is("Own", e, api.ErrCount)
		at, e := own.Put(x.b, of(val))
		if at == leaf {
			t.Error("what waits is handed out")
		}
		return e
	}), api.OK)
	x.counts(1, l...)
	x = start(t, 100)
	nodes, data := x.tall(2, 2)
	asked := 0
	x.is("Drop", own.Drop(x.b, nodes[2], func(val uint64) api.Errno { // takes all back
		asked++
		return x.b.Back()
	}), api.ErrTree) // the second leaf is not there any more
	if asked != 2 {
		t.Error(asked)
	}
	x.counts(0, append(nodes, data...)...)
}

// R1: a free that panics does not let Drop panic; what was let go by then stays so.
func TestDropFreePanics(t *testing.T) {
	for _, what := range []any{"no", 1, nil, api.ErrTree} {
		for nth := range 4 {
			x := start(t, 100)
			nodes, data := x.tall(2, 2)
			let, asked := own.Let(x.b), 0
			x.is("Drop", own.Drop(x.b, nodes[2], func(val uint64) api.Errno {
				if asked++; asked == nth+1 {
					panic(what)
				}
				return let(val)
			}), api.ErrArg)
			x.counts(0, data[:nth]...)
			x.counts(1, data[nth:]...)
			if asked != nth+1 {
				t.Error(asked, nth)
			}
		}
	}
	var none func(uint64) api.Errno
	x := start(t, 60)
	at := x.put(leafOf(x.some(1)...))
	x.is("Drop", own.Drop(x.b, at, func(val uint64) api.Errno { return none(val) }), api.ErrArg)
}
