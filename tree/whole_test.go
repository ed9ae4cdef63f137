package tree_test

import (
	"fmt"
	"math/rand"
	"slices"
	"testing"

	"catchment/api"
	"catchment/disk"
	"catchment/find"
	"catchment/leaf"
	"catchment/own"
	"catchment/tree"
)

// kept is what one had behind the last Commit.
type kept struct {
	trees []root
	data  []int
}

// keep notes what one has.
func (x *set) keep() kept {
	k := kept{data: slices.Clone(x.data)}
	for _, r := range x.trees {
		k.trees = append(k.trees, *r)
	}
	return k
}

// have has again what one had.
func (x *set) have(k kept) {
	x.data, x.trees = slices.Clone(k.data), nil
	for _, r := range k.trees {
		x.trees = append(x.trees, &r)
	}
}

// P15.4: trees that share nodes and data, changed by chance: each tells what a plain one tells, counts are references, whatever is refused changes nothing; at the end all are dropped, and all is free again.
func TestByChance(t *testing.T) {
	told := map[string]int{}
	for seed := range 12 {
		rnd := rand.New(rand.NewSource(int64(seed)))
		x := start(t, []int{40, 50, 60, 400}[seed%4])
		x.put(of(0)) // so that pages stand where each later Commit may put them
		x.is("Back", x.b.Back(), api.OK)
		room := x.b.Room()
		x.some(3)
		x.plant(nil)
		x.commit()
		was := x.keep()
		for range 500 {
			r := x.trees[rnd.Intn(len(x.trees))]
			key := uint64(rnd.Intn([]int{30, 60, 200}[seed%3]))
			switch n := rnd.Intn(40); {
			case n < 18:
				told[x.tries(r, key, x.value(rnd), false)]++
			case n < 32:
				if l := r.has.items(); len(l) > 0 && rnd.Intn(3) > 0 {
					key = l[rnd.Intn(len(l))].Key
				}
				told[x.tries(r, key, 0, true)]++
			case n < 34 && len(x.trees) < 6:
				x.share(r)
			case n == 34 && len(x.trees) > 3:
				x.drop(rnd.Intn(len(x.trees)))
			case n == 35:
				x.plant(nil)
			case n == 36:
				x.is("Back", x.b.Back(), api.OK)
				x.have(was)
			case n > 36:
				x.commit()
				if n == 37 {
					x.again()
				}
				was = x.keep()
			}
			x.holds()
		}
		for len(x.trees) > 0 {
			x.drop(0)
			x.holds()
		}
		for _, at := range x.data {
			x.is("Down", x.b.Down(at), api.OK)
		}
		x.commit()
		if x.b.Room() != room {
			t.Error(seed, "something is not free again:", x.b.Room(), room)
		}
	}
	for _, what := range []string{"Put 0", "Put 90", "Take 0", "Take 90", "Take 121"} {
		if told[what] < 50 {
			t.Error(what, "is told too seldom:", told)
		}
	}
}

// value is a value by chance: none, or data.
func (x *set) value(rnd *rand.Rand) uint64 {
	if rnd.Intn(4) == 0 {
		return 0
	}
	return uint64(x.data[rnd.Intn(len(x.data))])
}

// drop lets a tree go.
func (x *set) drop(i int) {
	x.t.Helper()
	x.is("Drop", own.Drop(x.b, x.trees[i].at, own.Let(x.b)), api.OK)
	x.trees = slices.Delete(x.trees, i, i+1)
}

// tries changes a key, if there is room, and tells what it was told.
func (x *set) tries(r *root, key, val uint64, taking bool) string {
	x.t.Helper()
	e := api.OK
	_, is := r.has.get(key)
	switch {
	case x.b.Room() < tree.Need(r.has.high()):
		e = api.ErrSpace
	case taking && !is:
		e = api.ErrKey
	case taking:
		x.takes(r, key)
	default:
		x.puts(r, key, val)
	}
	if e == api.OK {
		return map[bool]string{true: "Take 0", false: "Put 0"}[taking]
	}
	before := x.state(false)
	if !taking {
		_, _, _, no := tree.Put(x.b, r.at, key, val)
		x.is("Put", no, e)
	} else {
		_, _, no := tree.Take(x.b, r.at, key)
		x.is("Take", no, e)
	}
	if x.state(false) != before {
		x.t.Fatal("a refusal has changed something")
	}
	return map[bool]string{true: "Take ", false: "Put "}[taking] + fmt.Sprint(int(e))
}

// odd is a set of nodes by chance: of any values, at blocks of any counts, fresh and committed; some are trees.
func odd(t testing.TB, seed int) *set {
	rnd := rand.New(rand.NewSource(int64(seed)))
	x := start(t, []int{40, 60, 90}[seed%3])
	x.some(2)
	for range 4 + rnd.Intn(16) {
		n := api.Node{Leaf: rnd.Intn(3) > 0}
		key := uint64(rnd.Intn(30))
		for range 1 + rnd.Intn(7) {
			n.Keys = append(n.Keys, key)
			key += uint64(1 + rnd.Intn(20))
			val := uint64(rnd.Intn(12))
			if !n.Leaf {
				val = uint64(4 + rnd.Intn(18))
			}
			n.Vals = append(n.Vals, val)
		}
		own.Put(x.b, n) // it may be none: then nothing is put
		if rnd.Intn(6) == 0 {
			x.commit()
		}
	}
	for range rnd.Intn(12) {
		x.b.Up(4 + rnd.Intn(20))
	}
	for range rnd.Intn(4) {
		x.b.Down(4 + rnd.Intn(20))
	}
	if rnd.Intn(3) == 0 {
		x.commit()
	}
	if rnd.Intn(5) == 0 {
		x.fill(min(x.b.Room(), rnd.Intn(8)))
	}
	return x
}

// bent is a set with a right tree that was changed by chance, so that it is not right, or that counts are not what references there are.
func bent(t testing.TB, seed int) *set {
	rnd := rand.New(rand.NewSource(int64(seed)))
	x := start(t, 90)
	forms := []string{"(3 3)", "(3 7 3)", "((3 3 3) (3 3 3))", "((3 7 3) (3 3 3 3 3 3) (7 3 3))", "((3 3 3) (3 3 3) (3 3 3))", "((7 3 3 3 3 3 3) (3 3 3 3))"}
	r := x.planted(forms[rnd.Intn(len(forms))])
	nodes := []int{r.at}
	for i := 0; i < len(nodes); i++ {
		nodes = append(nodes, kidsOf(x, nodes[i])...)
	}
	for range 1 + rnd.Intn(4) {
		at := nodes[rnd.Intn(len(nodes))]
		n, e := find.Node(x.b, at)
		if e != api.OK { // it was let go
			continue
		}
		i, some := rnd.Intn(len(n.Keys)), uint64(nodes[rnd.Intn(len(nodes))])
		switch rnd.Intn(8) {
		case 0, 1, 2:
			n.Vals[i] = some
		case 3:
			n.Keys[i] += uint64(rnd.Intn(60)) - 30
		case 4:
			n.Keys, n.Vals = n.Keys[:i+1], n.Vals[:i+1]
		case 5:
			n.Vals[i] = uint64(rnd.Intn(92))
		case 6:
			x.b.Up(at)
		case 7:
			x.b.Down(at)
		}
		own.Set(x.b, at, n) // it may be none: then it stays as it is
		if rnd.Intn(8) == 0 {
			x.commit()
		}
	}
	for range rnd.Intn(3) {
		x.b.Up(nodes[rnd.Intn(len(nodes))])
	}
	if rnd.Intn(3) == 0 {
		x.commit()
	}
	return x
}

// P15.1 to P15.3, R1, R2: of trees that are not right, or whose counts are not what references there are, each call ends; beside an error all else is 0, and nothing has changed.
func TestNotRight(t *testing.T) {
	told := map[string]int{}
	for seed := range 1500 {
		rnd := rand.New(rand.NewSource(int64(seed)))
		from, root := func() *set { return bent(t, seed) }, 0
		if seed%2 == 0 {
			from = func() *set { return odd(t, seed) }
		} else {
			root = from().trees[0].at
		}
		for range 3 {
			key := uint64(rnd.Intn(120))
			if seed%2 == 0 {
				root, key = 4+rnd.Intn(18), key/2
			}
			unlessDone(t, fmt.Sprint("Put ", seed), from, func(x *set) api.Errno { return x.putsOdd(root, key, told) })
			unlessDone(t, fmt.Sprint("Take ", seed), from, func(x *set) api.Errno { return x.takesOdd(root, key, told) })
		}
	}
	for _, what := range []string{"Put 0", "Put 130", "Put 90", "Put 82", "Take 0", "Take 130", "Take 90", "Take 121"} {
		if told[what] < 40 {
			t.Error(what, "is told too seldom:", told)
		}
	}
	for what := range told {
		if !slices.Contains([]string{"0", "2", "82", "90", "130", "121"}, lastWord(what)) {
			t.Error(what, "is told:", told)
		}
	}
}

// putsOdd puts a key into whatever stands at a block, and notes what is told.
func (x *set) putsOdd(root int, key uint64, told map[string]int) api.Errno {
	x.t.Helper()
	may := tree.May(x.b, root, key)
	at, old, was, e := tree.Put(x.b, root, key, 4)
	if e != api.OK && (at != 0 || old != 0 || was) || may != api.OK && may != e {
		x.t.Fatal(at, old, was, e, may)
	}
	told[fmt.Sprint("Put ", int(e))]++
	return e
}

// takesOdd takes a key likewise: the first one that is there from a key on, if there is one.
func (x *set) takesOdd(root int, key uint64, told map[string]int) api.Errno {
	x.t.Helper()
	if l, _ := find.Walk(x.b, root, key, last, 1); len(l) > 0 {
		key = l[0].Key
	}
	may := tree.May(x.b, root, key)
	at, old, e := tree.Take(x.b, root, key)
	if e != api.OK && (at != 0 || old != 0) || may != api.OK && may != e {
		x.t.Fatal(at, old, e, may)
	}
	told[fmt.Sprint("Take ", int(e))]++
	return e
}

// lastWord is what stands behind the last space.
func lastWord(s string) string {
	for i := len(s); i > 0; i-- {
		if s[i-1] == ' ' {
			return s[i:]
		}
	}
	return s
}

// refusesOnce holds that a change of a key of one's first tree is refused, and changes nothing: a Put, or a Take.
func refusesOnce(t testing.TB, what string, from func() *set, key uint64, taking bool, want api.Errno) {
	t.Helper()
	changesNothing(t, what, from, func(x *set) {
		at, old, was, e := 0, uint64(0), false, api.OK
		if taking {
			at, old, e = tree.Take(x.b, x.trees[0].at, key)
		} else {
			at, old, was, e = tree.Put(x.b, x.trees[0].at, key, 0)
		}
		if at != 0 || old != 0 || was || e != want {
			t.Error(what, at, old, was, e)
		}
	})
}

// P15.2, P15.3: keys that stand below another kid than they may: where a half, or what is joined, has no place beside the other one, nothing changes.
func TestKeysElsewhere(t *testing.T) {
	for what, c := range map[string]struct {
		leaf   int
		keys   []uint64
		key    uint64
		taking bool
	}{
		"a half that has the key of the next kid":    {0, []uint64{10, 20, 30, 40, 70, 80, 90}, 15, false},
		"a half that is behind the next kid":         {0, []uint64{10, 20, 30, 45, 50, 60, 90}, 15, false},
		"a half that is ahead of its kid":            {1, []uint64{1, 2, 3, 4, 5, 6, 7}, 45, false},
		"joined with what is behind the next kid":    {1, []uint64{41, 42, 80, 90, 91, 92, 93}, 10, true},
		"joined with what is ahead":                  {1, []uint64{1, 2, 3}, 10, true},
		"joined with what has the same key":          {1, []uint64{30, 50, 60}, 10, true},
		"joined with what is ahead of it altogether": {0, []uint64{45, 46, 47}, 50, true},
	} {
		for _, committed := range []bool{false, true} {
			from := func() *set {
				x := start(t, 100)
				p := formed("(3 3 3)")
				for i, keys := range [][]uint64{{10, 20, 30}, {40, 50, 60}, {70, 80, 90}} {
					p.kids[i].keys = keys
				}
				p.kids[c.leaf].keys, p.kids[c.leaf].vals = c.keys, make([]uint64, len(c.keys))
				x.plant(p)
				if committed {
					x.commit()
				}
				return x
			}
			refusesOnce(t, what, from, c.key, c.taking, api.ErrTree)
		}
	}
}

// P15.2, P15.3: a way that is longer than the first one, which tells the height: there may be too little room for it, though May does not know. An only kid has nothing to be joined with.
func TestLongWay(t *testing.T) {
	told := map[api.Errno]int{}
	for room := 6; room < 24; room++ {
		for full := range 4 {
			from := func() *set {
				x := start(t, 100)
				at := x.put(of(make([]uint64, 7)...))
				wide := uint64(10)
				for level := range 6 {
					wide *= 10
					n := api.Node{Keys: []uint64{10}, Vals: []uint64{uint64(at)}}
					for i := uint64(1); level < full && i < 7; i++ {
						n.Keys, n.Vals = append(n.Keys, wide*i), append(n.Vals, uint64(x.put(of(0))))
					}
					at = x.put(n)
				}
				first := x.put(of(0, 0, 0))
				x.plant(nil).at = x.put(api.Node{Keys: []uint64{0, 10}, Vals: []uint64{uint64(first), uint64(at)}})
				x.commit()
				x.fill(room)
				return x
			}
			unlessDone(t, "a long way", from, func(x *set) api.Errno {
				x.is("May", tree.May(x.b, x.trees[0].at, 15), api.OK)
				_, _, _, e := tree.Put(x.b, x.trees[0].at, 15, 0)
				told[e]++
				if (e == api.ErrSpace) != (room < 9+full) {
					t.Error(room, full, e)
				}
				return e
			})
		}
	}
	if told[api.OK] < 10 || told[api.ErrSpace] < 10 || len(told) != 2 {
		t.Error(told)
	}
	only := func() *set {
		x := start(t, 100)
		x.plant(nil).at = x.put(kids(x.put(kids(x.put(of(0, 0, 0)))), x.put(kids(x.put(of(0, 0, 0))))))
		return x
	}
	refusesOnce(t, "an only kid", only, 10, true, api.ErrTree)
}

// P15.2, P15.3: blocks whose counts are not what references there are. A leaf that is shared has a value that is a node of the same tree, which was one's own: it is not, as soon as the leaf is copied; nor may what that one refers to go up more often than it is asked for.
func TestWrongCounts(t *testing.T) {
	root := func() *set {
		x := start(t, 100)
		r := x.planted("(4 4)")
		n, _ := find.Node(x.b, x.node(r, 0))
		n.Vals[1] = uint64(r.at)
		x.is("Set", own.Set(x.b, x.node(r, 0), n), api.OK)
		x.up(x.node(r, 0))
		return x
	}
	refusesOnce(t, "a leaf that refers to the root", root, 15, false, api.ErrTree)
	refusesOnce(t, "a leaf that refers to the root", root, 10, true, api.ErrTree)
	for _, c := range []struct {
		count int
		want  api.Errno
	}{{api.MaxRef, api.ErrRef}, {api.MaxRef - 1, api.ErrRef}, {api.MaxRef - 2, api.OK}} {
		beside := func() *set {
			x := start(t, 100)
			r := x.planted("(3 3)")
			n, _ := find.Node(x.b, x.node(r, 0))
			n.Vals[1] = uint64(x.node(r, 1))
			x.is("Set", own.Set(x.b, x.node(r, 0), n), api.OK)
			x.up(x.node(r, 0))
			n, _ = find.Node(x.b, x.node(r, 1))
			full := x.some(1)[0]
			n.Vals[0], n.Vals[2] = uint64(full), uint64(full)
			x.is("Set", own.Set(x.b, x.node(r, 1), n), api.OK)
			x.upTo(full, c.count)
			return x
		}
		if c.want != api.OK {
			refusesOnce(t, "a leaf that refers to the one beside it", beside, 10, true, c.want)
			continue
		}
		x := beside()
		_, _, e := tree.Take(x.b, x.trees[0].at, 10)
		x.is("Take", e, api.OK)
	}
}

// P15.2, P15.3: a disk on which a leaf was written by hand where a count page stands, and a committed node that refers to it: its block may not go down, and the node over it may not be changed ahead of that.
func TestLeafOfPage(t *testing.T) {
	over := func(kid int) *set {
		x := start(t, 60)
		x.plant(nil).at = x.put(kids(x.put(of(0, 0, 0, 0)), kid))
		x.commit()
		return x
	}
	kid := over(50).pages()[1] // where it stands does not hang on what nodes refer to
	from := func() *set {
		x := over(kid)
		page, e := leaf.Encode(of(0, 0, 0))
		x.is("Encode", e, api.OK)
		x.is("Write", x.d.Write(kid, page), api.OK)
		return x
	}
	if x := from(); x.pages()[1] != kid {
		t.Fatal(kid, x.pages())
	}
	for _, key := range []uint64{20, 30} {
		refusesOnce(t, "a leaf where a page is", from, key, false, api.ErrArg)
		refusesOnce(t, "a leaf where a page is", from, key, true, api.ErrArg)
	}
}

// P15.1: a value too great for any block is none, also where all blocks are that there may be.
func TestGreatValues(t *testing.T) {
	x := start(t, 4096)
	full := 0
	for full != 4095 {
		full = x.some(1)[0]
		if full != 4095 {
			x.is("Down", x.b.Down(full), api.OK)
		}
	}
	x.upTo(full, api.MaxRef)
	for _, val := range []uint64{4096, 4097, 8191, 1<<12 + 1<<32, 1 << 63, 1<<63 + 4095, last} {
		at := x.put(of(val))
		x.up(at)
		x.is("May", tree.May(x.b, at, 10), api.OK)
		if to, _, _, e := tree.Put(x.b, at, 20, 0); to != 0 || e != api.ErrTree {
			t.Error(val, to, e)
		}
	}
	at := x.put(of(4095))
	x.up(at)
	x.is("May", tree.May(x.b, at, 10), api.ErrRef)
}

// P15.2, P15.3: a leaf that is shared, or below what is, and has a value that may not be referred to once more: it can't be owned, and nothing changes. May does not ask that.
func TestValuesOfShared(t *testing.T) {
	const gone, page, none = 4, 2, 59
	for what, bad := range map[string]uint64{"1": 1, "a page": page, "free": none, "the number of blocks": 60, "4096": 4096, "2^32 + 4": 1<<32 + 4, "2^64 - 1": last, "let go": gone} {
		for place := range 3 {
			for _, form := range []string{"3", "(3 3)", "((3 3 3) (3 3 3))"} {
				for _, alone := range []bool{true, false} { // the leaf, or the root

					from := func() *set {
						x := start(t, 60)
						x.some(1)
						x.commit()
						x.is("Down", x.b.Down(gone), api.OK)
						x.data = nil
						p := formed(form)
						low := p
						for !low.leaf() {
							low = low.kids[0]
						}
						low.vals[place] = bad
						r := x.plant(p)
						if alone {
							x.up(x.node(r, make([]int, p.high()-1)...))
						} else {
							x.up(r.at)
						}
						return x
					}
					what := fmt.Sprint(what, " in ", form)
					unlessDone(t, what, from, func(x *set) api.Errno {
						x.is(what, tree.May(x.b, x.trees[0].at, 15), api.OK)
						at, old, was, e := tree.Put(x.b, x.trees[0].at, 15, 0)
						if at != 0 || old != 0 || was || e != api.ErrTree {
							t.Error(what, at, old, was, e)
						}
						return e
					})
					for key := uint64(10); key <= 40; key += 10 { // of the fourth key on, the leaf beside has it
						if key > 30 && form == "3" {
							break
						}
						unlessDone(t, what, from, func(x *set) api.Errno {
							at, old, e := tree.Take(x.b, x.trees[0].at, key)
							if at != 0 || old != 0 || e != api.ErrTree {
								t.Error(what, at, old, e)
							}
							return e
						})
					}
					if form != "3" {
						x := from()
						if _, _, _, e := tree.Put(x.b, x.trees[0].at, 45, 0); e != api.OK {
							t.Error(what, e)
						}
					}
				}
			}
		}
	}
}

// P15.2, P15.3: nodes to which nobody refers any more, and which are there till they are handed out: the root, a kid of the way, one beside it. They can't be owned, and nothing changes.
func TestLetGoNodes(t *testing.T) {
	for what, c := range map[string]struct {
		way       []int
		put, take api.Errno
	}{"the root": {nil, api.ErrCount, api.ErrCount}, "a node of the way": {[]int{0}, api.ErrTree, api.ErrTree}, "the leaf": {[]int{0, 0}, api.ErrTree, api.ErrTree}, "a leaf beside": {[]int{0, 1}, api.ErrTree, api.ErrTree}, "a node beside": {[]int{1}, api.ErrTree, api.ErrTree}} {
		for _, committed := range []bool{false, true} {
			from := func() *set {
				x := start(t, 60)
				r := x.planted("((3 3 3) (3 3 3))")
				x.commit()
				x.is("Down", x.b.Down(x.node(r, c.way...)), api.OK)
				if committed {
					x.commit()
				}
				return x
			}
			changesNothing(t, what, from, func(x *set) {
				if at, old, was, e := tree.Put(x.b, x.trees[0].at, 15, 0); at != 0 || old != 0 || was || e != c.put {
					t.Error("Put,", what, at, old, was, e)
				}
				if at, old, e := tree.Take(x.b, x.trees[0].at, 10); at != 0 || old != 0 || e != c.take {
					t.Error("Take,", what, at, old, e)
				}
				if at, old, e := tree.Take(x.b, x.trees[0].at, 15); at != 0 || old != 0 || e != api.ErrKey {
					t.Error("Take,", what, at, old, e)
				}
			})
		}
	}
}

// P15.1 to P15.3: without power all that is fresh is changed as ever; where a node can't be read that is needed, the disk's error is told, and nothing changes.
func TestWithoutPower(t *testing.T) {
	fails := func(x *set) {
		x.d.Arm(0)
		x.is("Flush", x.d.Flush(), api.ErrDown)
	}
	committed := func() *set {
		x := start(t, 100)
		x.planted("((3 4 3) (3 3 3))")
		x.commit()
		fails(x)
		return x
	}
	for _, key := range []uint64{0, 10, 15, 100, last} {
		changesNothing(t, "without power", committed, func(x *set) {
			x.may("without power", x.trees[0].at, key, api.ErrDown)
			x.may("without power, noughts", 99, key, api.ErrDown)
			x.may("without power, no block", 100, key, api.ErrArg)
			x.is("May", tree.May(x.b, 0, key), api.OK)
		})
	}
	fresh := func() *set {
		x := start(t, 100)
		r := x.planted("((3 7 3) (3 3 3))")
		fails(x)
		x.up(x.data[0])
		for i, key := range []uint64{45, 10, 170, 5, 190} {
			var e api.Errno
			if i%2 == 0 {
				r.at, _, _, e = tree.Put(x.b, r.at, key, 0)
				r.has = r.has.put(key, 0)
			} else {
				r.at, _, e = tree.Take(x.b, r.at, r.has.items()[0].Key)
				r.has = r.has.take(r.has.items()[0].Key)
			}
			x.is("a change", e, api.OK)
			x.reads(r.at, r.has)
		}
		return x
	}
	fresh()
	half := func() *set { // the first way is fresh, all beside it is on the disk
		x := start(t, 100)
		r := x.planted("((3 3 3) (3 3 3))")
		x.commit()
		x.puts(r, 10, 0)
		fails(x)
		return x
	}
	changesNothing(t, "without power for a node beside", half, func(x *set) {
		x.is("May", tree.May(x.b, x.trees[0].at, 10), api.OK)
		if at, old, e := tree.Take(x.b, x.trees[0].at, 20); at != 0 || old != 0 || e != api.ErrDown {
			t.Error(at, old, e)
		}
		x.may("another way", x.trees[0].at, 50, api.ErrDown)
		if at, old, e := tree.Take(x.b, x.trees[0].at, 5); at != 0 || old != 0 || e != api.ErrKey {
			t.Error(at, old, e)
		}
	})
	x := half()
	r := x.trees[0]
	for _, key := range []uint64{5, 15} {
		at, _, _, e := tree.Put(x.b, r.at, key, 0)
		x.is("Put", e, api.OK)
		if at != r.at {
			t.Error(at, r.at)
		}
	}
	for _, key := range []uint64{15, 20} {
		_, _, e := tree.Take(x.b, r.at, key)
		x.is("Take", e, api.OK)
	}
	if _, _, e := tree.Take(x.b, r.at, 5); e != api.ErrDown {
		t.Error(e)
	}
	shared := func() *set { // what is shared beside the way is asked for its references
		x := half()
		n, _ := find.Node(x.b, x.node(x.trees[0], 0))
		x.up(int(n.Vals[1]))
		return x
	}
	changesNothing(t, "without power for a shared node beside", shared, func(x *set) {
		x.may("a shared node beside", x.trees[0].at, 10, api.ErrDown)
	})
}

// P15.1 to P15.3: a disk that is none any more: what can't be read is told.
func TestDiskIsNone(t *testing.T) {
	x := start(t, 100)
	r := x.planted("((3 3 3) (3 3 3))")
	x.commit()
	old := r.at
	x.puts(r, 10, 0)
	*x.d = disk.Disk{}
	x.may("a tree of old", old, 10, api.ErrNil)
	x.may("a way of old", r.at, 180, api.ErrNil)
	if _, _, e := tree.Take(x.b, r.at, 10); e != api.ErrNil {
		t.Error(e)
	}
	if _, _, e := tree.Take(x.b, r.at, 15); e != api.ErrKey {
		t.Error(e)
	}
	at, _, _, e := tree.Put(x.b, r.at, 15, 0)
	if x.is("Put", e, api.OK); at != r.at {
		t.Error(at, r.at)
	}
}

// P15.1 to P15.3: a base that is broken changes nothing: ErrBroken, behind all that May tells, and behind ErrKey.
func TestBroken(t *testing.T) {
	for _, form := range []string{"none", "1", "7", "(3 3)", "((3 3 3) (3 3 3))"} {
		for how := range 8 {
			from := func(room int) func() *set {
				return func() *set {
					x := start(t, 100)
					x.some(1)
					if form == "none" {
						x.plant(nil)
					} else {
						x.planted(form)
					}
					sharedSomehow(x, x.trees[0], how)
					x.some(1)
					if room >= 0 {
						x.fill(room)
					}
					x.d.Arm(0)
					x.is("Commit", x.b.Commit(), api.ErrDown)
					x.is("Crash", x.d.Crash(api.Crash{Torn: -1}), api.OK)
					return x
				}
			}
			changesNothing(t, "a broken base", from(-1), func(x *set) {
				root := x.trees[0].at
				for _, key := range []uint64{0, 10, 15, 60, last} {
					x.is("May", tree.May(x.b, root, key), api.OK)
					if at, old, was, e := tree.Put(x.b, root, key, 0); at != 0 || old != 0 || was || e != api.ErrBroken {
						t.Error(form, how, at, old, was, e)
					}
					want := api.ErrKey
					if _, is := x.trees[0].has.get(key); is {
						want = api.ErrBroken
					}
					if at, old, e := tree.Take(x.b, root, key); at != 0 || old != 0 || e != want {
						t.Error(form, how, at, old, e)
					}
				}
				x.may("a broken base, no block", 1, 10, api.ErrArg)
				x.may("a broken base, noughts", 99, 10, api.ErrTree)
			})
			changesNothing(t, "a broken base without room", from(1), func(x *set) {
				x.may("a broken base without room", x.trees[0].at, 10, api.ErrSpace)
			})
		}
	}
}
