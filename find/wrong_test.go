package find_test

import (
	"fmt"
	"math"
	"math/rand"
	"slices"
	"testing"

	"catchment/api"
	"catchment/find"
)

// The trees of these tests have keys from low on, and, where something stands behind them, below high.
const low, high = 1000, 2000

// trio puts a right node of three kids, each of three keys, and lets change change it and its kids ahead of that.
func (x *set) trio(change func(over *api.Node, leaves []api.Node)) int {
	leaves := []api.Node{of(1000, 1010, 1020), of(1100, 1110, 1120), of(1200, 1210, 1220)}
	var at []int
	for range leaves {
		at = append(at, x.data(make([]byte, 128)))
	}
	over := kids([]uint64{1000, 1100, 1200}, at...)
	change(&over, leaves)
	for i := range leaves {
		x.over(at[i], leaves[i])
	}
	return x.node(over)
}

// node puts a node, also one that leaf.Encode refuses: that block has no node.
func (x *set) node(n api.Node) int {
	x.t.Helper()
	at := x.data(page(n))
	if _, e := find.Node(x.b, at); e == api.OK {
		x.p[at] = n
	}
	return at
}

// wrongs put trees of two levels, each with one thing wrong, whatever stands over it.
func wrongs() map[string]func(x *set) int {
	out := map[string]func(x *set) int{
		"own block as the first kid": func(x *set) int { return x.ring(0) },
		"own block as the last kid":  func(x *set) int { return x.ring(2) },
		"a ring of two": func(x *set) int {
			at := x.ring(1)
			n := x.p[at]
			x.over(at, kids(n.Keys, int(n.Vals[0]), x.put(kids([]uint64{1100, 1110, 1120}, int(n.Vals[0]), int(n.Vals[2]), at)), int(n.Vals[2])))
			return at
		},
	}
	vals := map[string]uint64{"0": 0, "1": 1, "the number of blocks": 400, "the number of blocks and one": 401, "4095": 4095, "4096": 4096, "2^32 and a leaf's": 1<<32 + 4, "2^64 - 1": top, "noughts": 390, "a count page": 2, "the directory page": 9}
	for i := range 3 {
		for what, val := range vals {
			out[fmt.Sprint("kid ", i, ": ", what)] = func(x *set) int {
				x.d.Write(1, page(of(row(3, uint64(1000+100*i), 10)...))) // whatever stands ahead of First
				return x.trio(func(over *api.Node, _ []api.Node) { over.Vals[i] = val })
			}
		}
		out[fmt.Sprint("kid ", i, ": data")] = func(x *set) int {
			at := x.data(slices.Repeat([]byte{1}, 128))
			return x.trio(func(over *api.Node, _ []api.Node) { over.Vals[i] = uint64(at) })
		}
		out[fmt.Sprint("kid ", i, ": one more level")] = func(x *set) int {
			from := uint64(1000 + 100*i)
			at := x.put(kids([]uint64{from, from + 10, from + 20}, x.put(of(row(3, from, 1)...)), x.put(of(row(3, from+10, 1)...)), x.put(of(row(3, from+20, 1)...))))
			return x.trio(func(over *api.Node, _ []api.Node) { over.Vals[i] = uint64(at) })
		}
		for n := range 3 {
			out[fmt.Sprint("kid ", i, ": ", n, " keys")] = func(x *set) int {
				return x.trio(func(_ *api.Node, leaves []api.Node) { leaves[i] = of(leaves[i].Keys[:n]...) })
			}
		}
		out[fmt.Sprint("kid ", i, ": a key below the kid's")] = func(x *set) int {
			return x.trio(func(_ *api.Node, leaves []api.Node) {
				leaves[i] = of(append([]uint64{leaves[i].Keys[0] - 1}, leaves[i].Keys...)...)
			})
		}
		out[fmt.Sprint("kid ", i, ": all keys below the kid's")] = func(x *set) int {
			return x.trio(func(_ *api.Node, leaves []api.Node) { leaves[i] = of(row(3, uint64(900+100*i), 10)...) })
		}
		if i == 2 {
			continue
		}
		for more := range uint64(2) {
			out[fmt.Sprint("kid ", i, ": the next kid's key and ", more)] = func(x *set) int {
				return x.trio(func(over *api.Node, leaves []api.Node) {
					leaves[i] = of(append(leaves[i].Keys, over.Keys[i+1]+more)...)
				})
			}
		}
		out[fmt.Sprint("kid ", i, ": the greatest key of all")] = func(x *set) int {
			return x.trio(func(_ *api.Node, leaves []api.Node) { leaves[i] = of(append(leaves[i].Keys, top)...) })
		}
		out[fmt.Sprint("kids ", i, " and ", i+1, ": changed over")] = func(x *set) int {
			return x.trio(func(over *api.Node, _ []api.Node) {
				over.Vals[i], over.Vals[i+1] = over.Vals[i+1], over.Vals[i]
			})
		}
		out[fmt.Sprint("kids ", i, " and ", i+1, ": the same leaf twice")] = func(x *set) int {
			return x.trio(func(over *api.Node, leaves []api.Node) {
				leaves[i] = of(append(leaves[i].Keys, leaves[i+1].Keys...)...)
				over.Vals[i+1] = over.Vals[i]
			})
		}
		out[fmt.Sprint("kids ", i, " and ", i+1, ": like leaves")] = func(x *set) int {
			return x.trio(func(_ *api.Node, leaves []api.Node) { leaves[i] = leaves[i+1] })
		}
	}
	return out
}

// ring puts a node that is a kid of its own.
func (x *set) ring(kid int) int {
	at := x.trio(func(*api.Node, []api.Node) {})
	n := x.p[at]
	n.Vals[kid] = uint64(at)
	x.over(at, n)
	return at
}

// fine is the right tree of which one thing is changed each.
func fine(x *set) int {
	return x.trio(func(*api.Node, []api.Node) {})
}

// raised puts a tree below nodes that are right, the lowest one first, as the kid of that place of three each. They let what stands there have keys from low on, below high.
func (x *set) raised(tree func(*set) int, places ...int) int {
	at, from, behind, step := tree(x), uint64(low), uint64(high), uint64(3)
	for i, place := range places {
		step *= 3 // so many keys stand below each kid beside
		var n api.Node
		for kid := range 3 {
			key, val := from, at
			if kid < place {
				key = from - step*uint64(place-kid)
			} else if kid > place {
				key = behind + step*uint64(kid-place-1)
			}
			if kid != place {
				val = x.beside(key, i+2)
			}
			n.Keys, n.Vals = append(n.Keys, key), append(n.Vals, uint64(val))
		}
		at, from, behind = x.put(n), n.Keys[0], behind+step*uint64(2-place)
	}
	return at
}

// beside puts a right tree of so many levels; it has a few keys from one on.
func (x *set) beside(from uint64, levels int) int {
	if levels == 1 {
		return x.put(of(row(3, from, 1)...))
	}
	step := uint64(1)
	for range levels - 1 {
		step *= 3
	}
	var n api.Node
	for i := range uint64(3) {
		n.Keys = append(n.Keys, from+i*step)
		n.Vals = append(n.Vals, uint64(x.beside(from+i*step, levels-1)))
	}
	return x.put(n)
}

// keysOf are keys that lead to what is wrong, and beside it.
var keysOf = []uint64{0, 999, 1000, 1020, 1099, 1100, 1200, 1220, 1999, 2000, top}

// wrong holds that a tree is not right, and that every call ends.
func (x *set) wrong(what string, root int) {
	x.t.Helper()
	if x.p.right(root) {
		x.t.Fatal(what, "is a right tree in this test")
	}
	if find.Right(x.b, root) {
		x.t.Error(what, "is right")
	}
	ends(x.t, what, func() {
		for _, key := range keysOf {
			tells(x.t, x.b, root, key, top, math.MaxInt)
		}
		x.agrees(what, root, keysOf)
	})
}

// agrees holds that Get tells of some keys what Walk tells, one by one and of all, also of a tree that is not right (P13.3).
func (x *set) agrees(what string, root int, keys []uint64) {
	x.t.Helper()
	all, e := find.Walk(x.b, root, 0, top, math.MaxInt)
	keys = slices.Clone(keys)
	for _, x := range all {
		keys = append(keys, x.Key)
	}
	for _, key := range keys {
		one := tells(x.t, x.b, root, key, key, 1)
		if one.ofGet != one.ofWalk || one.is != slices.Contains(one.items, api.Item{Key: key, Val: one.val}) {
			x.t.Errorf("%s: Get of %d: %d %v %v, Walk: %v %v", what, key, one.val, one.is, one.ofGet, one.items, one.ofWalk)
		}
		if val, is := get(all, key); e == api.OK && (val != one.val || is != one.is) {
			x.t.Errorf("%s: Get of %d: %d %v, Walk of all: %v", what, key, one.val, one.is, all)
		}
	}
}

// depths are places of kids, the lowest one first: at the top, one level further down, two, and three.
var depths = [][]int{{}, {0}, {1}, {2}, {0, 0}, {1, 1}, {2, 2}, {2, 0}, {0, 2}, {0, 0, 0}, {2, 2, 1}}

// P13.1, P13.2: trees with one thing wrong, at the top and further down, below each kid; and the same ones with nothing wrong.
func TestWrongTrees(t *testing.T) {
	all := wrongs()
	for _, places := range depths {
		x := start(t, 400)
		x.holds(x.raised(fine, places...), rand.New(rand.NewSource(1)), 20)
		for what, tree := range all {
			x := start(t, 400)
			x.wrong(fmt.Sprint(what, ", below kids ", places), x.raised(tree, places...))
		}
	}
}

// P13.1: what is wrong by what stands over it alone: by itself it is a right tree.
func TestWrongBelow(t *testing.T) {
	for what, tree := range map[string]func(*set) int{
		"two kids": func(x *set) int {
			return x.put(kids([]uint64{1000, 1100}, x.put(of(1000, 1010, 1020)), x.put(of(1100, 1110, 1120))))
		},
		"a leaf":                      func(x *set) int { return x.put(of(1000, 1100, 1200)) },
		"three levels":                func(x *set) int { return x.beside(1000, 3) },
		"a first key below the kid's": changing(func(over *api.Node, _ []api.Node) { over.Keys[0] = 999 }),
		"a first key of 0":            changing(func(over *api.Node, _ []api.Node) { over.Keys[0] = 0 }),
		"keys below the kid's": changing(func(over *api.Node, leaves []api.Node) {
			over.Keys[0], leaves[0] = 900, of(999, 1010, 1020)
		}),
		"a last leaf with the next key": changing(func(_ *api.Node, leaves []api.Node) { leaves[2] = of(1200, 1210, high) }),
		"a last leaf beyond it":         changing(func(_ *api.Node, leaves []api.Node) { leaves[2] = of(1200, 1210, high+1) }),
		"a last leaf with the greatest": changing(func(_ *api.Node, leaves []api.Node) { leaves[2] = of(1200, 1210, top) }),
		"a last kid's key that is the next": changing(func(over *api.Node, leaves []api.Node) {
			over.Keys[2], leaves[2] = high, of(high, high+1, high+2)
		}),
		"a last kid's key beyond it": changing(func(over *api.Node, leaves []api.Node) {
			over.Keys[2], leaves[2] = high+5, of(high+5, high+6, high+7)
		}),
	} {
		for _, places := range [][]int{{1}, {2, 1}, {2, 0}, {2, 2, 1}} {
			x := start(t, 400)
			if by := tree(x); !find.Right(x.b, by) || !x.p.right(by) {
				t.Error(what, "by itself is not right")
			}
			x.wrong(fmt.Sprint(what, ", below kids ", places), x.raised(tree, places...))
		}
	}
}

// changing puts a trio that is changed.
func changing(change func(over *api.Node, leaves []api.Node)) func(*set) int {
	return func(x *set) int { return x.trio(change) }
}

// P13.1: keys at the very ends of what they may be are right.
func TestRightAtTheEnds(t *testing.T) {
	ends := changing(func(_ *api.Node, leaves []api.Node) {
		leaves[0] = of(1000, 1001, 1099)
		leaves[1] = of(1100, 1101, 1102, 1103, 1104, 1105, 1199)
		leaves[2] = of(1200, 1201, 1999)
	})
	for _, places := range append(depths, []int{2, 1}) {
		x := start(t, 400)
		x.holds(x.raised(ends, places...), rand.New(rand.NewSource(2)), 20)
	}
	x := start(t, 60)
	x.holds(x.put(kids([]uint64{0, 3}, x.put(of(0, 1, 2)), x.put(of(top-2, top-1, top)))), rand.New(rand.NewSource(3)), 20)
	x.holds(x.put(kids([]uint64{0, top - 2}, x.put(of(0, 1, top-3)), x.put(of(top-2, top-1, top)))), rand.New(rand.NewSource(3)), 20)
}

// P13.1: roots by how many keys they have.
func TestRoots(t *testing.T) {
	x := start(t, 60)
	leaves := []int{x.put(of(0, 1, 2)), x.put(of(10, 11, 12)), x.put(of(20, 21, 22))}
	x.wrong("a leaf without keys", x.put(of()))
	has(t, x.b, x.put(of(9)), 1)
	has(t, x.b, x.put(of(9, 10)), 1)
	for _, kid := range leaves {
		x.wrong("one kid", x.put(kids([]uint64{0}, kid)))
	}
	has(t, x.b, x.put(kids([]uint64{0, 10}, leaves[0], leaves[1])), 2)
	x.wrong("one kid of two levels", x.put(kids([]uint64{0}, x.put(kids([]uint64{0, 10, 20}, leaves...)))))
	for _, at := range append([]int{60, 61, 3, 59}, nowhere...) {
		x.wrong(fmt.Sprint("block ", at), at)
	}
}

// P13.2: trees of which each node refers to all below it, or to all there are: there are more ways down than can be gone, and none of them is gone for ever.
func TestManyWays(t *testing.T) {
	for _, keys := range [][]uint64{row(7, 0, 1), row(7, 0, 1<<61), row(7, top-6, 1)} {
		for _, last := range []api.Node{of(), of(5), of(keys...), of(top), kids(keys, 2, 3, 4, 5, 6, 7, 8)} {
			x := start(t, 400)
			at := make([]int, 7)
			for i := range at {
				at[i] = x.put(last)
			}
			for range 7 {
				var over []int
				for range at {
					over = append(over, x.put(kids(keys, at...)))
				}
				at = over
				x.many(at[0], keys)
			}
		}
		x := start(t, 400)
		at := make([]int, 7)
		for i := range at {
			at[i] = x.put(of(1))
		}
		for i := range at {
			x.over(at[i], kids(keys, at...))
		}
		x.many(at[0], keys)
	}
}

// many holds that a tree that is not right is gone through in no time.
func (x *set) many(root int, keys []uint64) {
	x.t.Helper()
	x.wrong("many ways", root)
	ends(x.t, "many ways", func() {
		for _, key := range keys {
			tells(x.t, x.b, root, key, top, math.MaxInt)
			tells(x.t, x.b, root, 0, key, math.MaxInt)
		}
	})
}

// P13.1, P13.2: right trees in which one thing is changed by chance: Right tells whether they are right still, and then so do all other calls; else every call ends.
func TestChangedByChance(t *testing.T) {
	rnd := rand.New(rand.NewSource(11))
	right, wrong := 0, 0
	for range 150 {
		x := start(t, 200)
		root := x.build(some(rnd, 4+rnd.Intn(80)), chance(rnd), scattered(rnd))
		var at []int
		for b := range x.p {
			at = append(at, b)
		}
		slices.Sort(at)
		for range 20 {
			b := at[rnd.Intn(len(at))]
			was := x.p[b]
			x.over(b, changed(rnd, was, at))
			if _, e := find.Node(x.b, b); e != api.OK { // no node can have that
				delete(x.p, b)
			}
			if x.p.right(root) {
				right++
				x.holds(root, rnd, 2)
			} else {
				wrong++
				if find.Right(x.b, root) {
					t.Fatal(b, was, "changed, and right")
				}
				ends(t, "a tree changed by chance", func() {
					x.agrees("a tree changed by chance", root, append(slices.Clone(was.Keys), 0, rnd.Uint64(), top))
				})
			}
			x.over(b, was)
		}
	}
	if right < 300 || wrong < 300 {
		t.Error("too few trees of one kind:", right, wrong)
	}
}

// changed is a node in which one thing is another one; some block of a list may stand as a kid.
func changed(rnd *rand.Rand, n api.Node, at []int) api.Node {
	n = api.Node{Leaf: n.Leaf, Keys: slices.Clone(n.Keys), Vals: slices.Clone(n.Vals)}
	i := rnd.Intn(len(n.Keys))
	switch rnd.Intn(7) {
	case 0:
		n.Keys[i]++
	case 1:
		n.Keys[i]--
	case 2:
		n.Keys[i] = rnd.Uint64()
	case 3:
		n.Keys, n.Vals = slices.Delete(n.Keys, i, i+1), slices.Delete(n.Vals, i, i+1)
	case 4:
		n.Vals[i] = uint64(at[rnd.Intn(len(at))])
	case 5:
		n.Leaf = !n.Leaf
	case 6:
		j := rnd.Intn(len(n.Keys))
		n.Vals[i], n.Vals[j] = n.Vals[j], n.Vals[i]
	}
	return n
}
