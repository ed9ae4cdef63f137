package own_test

import (
	"fmt"
	"slices"
	"testing"

	"catchment/api"
	"catchment/base"
	"catchment/find"
	"catchment/own"
)

// has holds which node stands at a block, as find tells it.
func (x *set) has(at int, want api.Node) {
	x.t.Helper()
	if n, e := find.Node(x.b, at); e != api.OK || !same(n, want) {
		x.t.Fatalf("Node(%d): %v %v, not %v", at, n, e, want)
	}
}

// P14.1 to P14.3: the chapter's examples.
func TestExamples(t *testing.T) {
	x := start(t, 60)
	l := x.some(2)
	six := x.put(api.Node{Leaf: true, Keys: []uint64{1, 2}, Vals: []uint64{uint64(l[0]), uint64(l[1])}})
	if at := x.owned(six); at != six {
		t.Fatal(at)
	}
	x.up(six)
	seven := x.owned(six)
	if seven == six {
		t.Fatal("it was shared")
	}
	x.counts(2, l...)
	x.counts(1, six, seven)
	x.dropped(six, vals(l)...)
	x.counts(1, l...)
	x.counts(0, six)
	x.commit()
	eight := x.owned(seven)
	x.counts(1, append(l, eight)...)
	x.counts(0, seven)
}

// R5: of no base nothing is told, whatever else is asked for.
func TestNoBase(t *testing.T) {
	x := start(t, 60)
	leaf := x.put(leafOf(x.some(1)...))
	copied := *x.b
	for _, b := range []*base.Base{nil, new(base.Base), &copied} {
		for _, n := range []api.Node{of(), leafOf(4), kids(4), {}, of(4, 5, 6, 7, 8, 9, 10, 11)} {
			if at, e := own.Put(b, n); at != 0 || e != api.ErrNil {
				t.Error("Put:", at, e)
			}
			for _, at := range append([]int{2, leaf, 59, 60}, nowhere...) {
				if e := own.Set(b, at, n); e != api.ErrNil {
					t.Error("Set:", at, e)
				}
			}
		}
		let := own.Let(b)
		for _, at := range append([]int{2, leaf, 59, 60}, nowhere...) {
			if to, e := own.Own(b, at); to != 0 || e != api.ErrNil {
				t.Error("Own:", at, to, e)
			}
			if own.Is(b, at) {
				t.Error("Is:", at)
			}
			for _, free := range []func(uint64) api.Errno{nil, let, own.Let(x.b)} {
				if e := own.Drop(b, at, free); e != api.ErrNil {
					t.Error("Drop:", at, e)
				}
			}
			if e := let(uint64(at)); e != api.ErrNil {
				t.Error("Let:", at, e)
			}
		}
	}
	x.tells()
}

// P14.1: nodes of both kinds, with as few and as many keys as may be; what they refer to is not counted.
func TestPut(t *testing.T) {
	for _, blocks := range []int{62, 4096} {
		x := start(t, blocks)
		data := x.some(3)
		all := map[int]api.Node{}
		for n := range 8 {
			l := slices.Repeat(vals(data), 3)[:n]
			all[x.put(of(l...))] = of(l...)
		}
		for n := 1; n < 8; n++ {
			l := []int{data[0], 1, 61, 4095, 4, data[2], 3}[:n]
			all[x.put(kids(l...))] = kids(l...)
		}
		odd := api.Node{Leaf: true, Keys: []uint64{0, 1, 1<<64 - 1}, Vals: []uint64{0, 1<<64 - 1, 4096}}
		all[x.put(odd)] = odd
		for range 2 {
			x.counts(1, data...)
			for at, n := range all {
				x.has(at, n)
				x.counts(1, at)
				x.mine(at, x.b.Fresh(at))
			}
			x.commit()
			x.again()
		}
	}
}

// P14.1: nodes that leaf.Encode does not take are refused ahead of all else but no base: also if there is no room, and by a base that is broken.
func TestNoNode(t *testing.T) {
	full := func() *set {
		x := start(t, 16)
		x.put(of(0))
		for x.b.Room() > 0 {
			x.some(1)
		}
		return x
	}
	broken := func() *set {
		x := start(t, 16)
		x.put(of(0))
		x.breaks()
		return x
	}
	for what, n := range noNodes() {
		for _, from := range []func() *set{func() *set { return start(t, 16) }, full, broken} {
			changesNothing(t, "Put of "+what, from, func(x *set) {
				if at, e := own.Put(x.b, n); at != 0 || e != api.ErrNode {
					t.Errorf("Put of %s: %d %v", what, at, e)
				}
			})
			changesNothing(t, "Set of "+what, from, func(x *set) {
				for _, at := range append([]int{2, 3, 4, 5, 15, 16}, nowhere...) {
					if e := own.Set(x.b, at, n); e != api.ErrNode {
						t.Errorf("Set of %s at %d: %v", what, at, e)
					}
				}
			})
		}
	}
}

// P14.1: room 1 is enough for one node, room 0 for none.
func TestPutRoom(t *testing.T) {
	from := func() *set {
		x := start(t, 16)
		x.some(x.b.Room() - 1)
		x.put(leafOf(4))
		return x
	}
	if x := from(); x.b.Room() != 0 {
		t.Fatal(x.b.Room())
	}
	for _, n := range []api.Node{of(), leafOf(4), kids(4)} {
		changesNothing(t, "Put without room", from, func(x *set) {
			if at, e := own.Put(x.b, n); at != 0 || e != api.ErrSpace {
				t.Error(at, e)
			}
		})
	}
}

// blocksOf puts one block of each kind that there is, and tells which is which; one's own are those of "own".
func blocksOf(x *set) map[string]int {
	data := x.some(1)[0]
	x.up(data, data, data)
	l := map[string]int{"noughts": 59, "a count page": x.p.pages[1], "a directory page": x.p.pages[0], "data of old": data}
	node := func(what string, n api.Node, count int) {
		l[what] = x.put(n)
		for range count - 1 {
			x.up(l[what])
		}
	}
	node("a committed leaf", leafOf(data), 1)
	node("a committed leaf, shared", leafOf(data), 2)
	node("a committed node", kids(l["a committed leaf"]), 1)
	node("a committed node, shared", kids(l["a committed leaf, shared"]), 3)
	node("a committed leaf, let go", of(), 1)
	x.commit()
	x.down(l["a committed leaf, let go"])
	l["data"], l["data of noughts"] = x.data(mixed(9)), x.data(make([]byte, 128))
	node("own: a leaf", leafOf(data, data), 1)
	node("own: a leaf without keys", of(), 1)
	node("own: a node", kids(l["own: a leaf"]), 1)
	node("a fresh leaf, shared", leafOf(data), 2)
	node("a fresh leaf, shared often", leafOf(data), 300)
	node("a fresh node, shared", kids(l["a fresh leaf, shared"]), 2)
	node("own: a leaf that was shared", leafOf(data), 2)
	x.down(l["own: a leaf that was shared"])
	l["a fresh leaf, let go"] = x.put(leafOf(data))
	x.down(l["a fresh leaf, let go"])
	return l
}

// P14.1: which nodes are one's own; Is changes nothing.
func TestIs(t *testing.T) {
	x := start(t, 60)
	all := blocksOf(x)
	before := x.state(false)
	for range 2 {
		for what, at := range all {
			if want := what[:3] == "own"; own.Is(x.b, at) != want || x.p.mine(at) != want {
				t.Errorf("Is of %s: %v", what, !want)
			}
		}
		for _, at := range append([]int{60, 61}, nowhere...) {
			x.mine(at, false)
		}
		if x.state(false) != before {
			t.Fatal("Is has changed something")
		}
		x.fail() // one's own can be read without power, too
		before = x.state(false)
	}
}

// P14.1: what is committed, or taken back, or let go is not one's own any more; what is shared is it again when it is not shared any more.
func TestIsNoMore(t *testing.T) {
	for what, do := range map[string]func(x *set, at int){
		"committed":              func(x *set, _ int) { x.commit() },
		"committed and opened":   func(x *set, _ int) { x.commit(); x.again() },
		"taken back":             func(x *set, _ int) { x.back() },
		"opened anew":            func(x *set, _ int) { x.again() },
		"shared":                 func(x *set, at int) { x.up(at) },
		"let go":                 func(x *set, at int) { x.down(at) },
		"written over with data": func(x *set, at int) { x.b.Over(at, mixed(1)); x.p.fresh[at] = mixed(1) },
	} {
		x := start(t, 60)
		at := x.put(leafOf(x.some(1)...))
		x.mine(at, true)
		do(x, at)
		x.mine(at, false)
		if e := x.over(at, of()); e != api.ErrKept {
			t.Error(what, e)
		}
	}
	x := start(t, 60)
	at := x.put(of())
	for range 3 {
		x.up(at)
		x.mine(at, false)
		x.down(at)
		x.mine(at, true)
	}
}

// P14.1: what is one's own is written over, with nodes of either kind, as often as one likes; what was and is referred to is not counted.
func TestSet(t *testing.T) {
	x := start(t, 60)
	l := x.some(3)
	at, beside := x.put(leafOf(l[0])), x.put(leafOf(l[0]))
	for i, n := range []api.Node{leafOf(l...), of(), kids(l...), kids(l[1]), of(0, 0, 1<<64-1), leafOf(l[0], l[0]), kids(1, 4095), leafOf(9), leafOf(9)} {
		x.is("Set", x.over(at, n), api.OK)
		x.has(at, n)
		x.has(beside, leafOf(l[0]))
		x.counts(1, append(l, at, beside)...)
		x.mine(at, true)
		if i == 6 {
			x.fail() // it is not on the disk yet
		}
	}
	x.power()
	x.commit()
	x.again()
	x.has(at, leafOf(9))
}

// P14.1: what is not one's own is not written over.
func TestSetKept(t *testing.T) {
	for what, at := range blocksOf(start(t, 60)) {
		if what[:3] == "own" {
			continue
		}
		for _, n := range []api.Node{of(), leafOf(4), kids(4)} {
			changesNothing(t, "Set of "+what, func() *set { x := start(t, 60); blocksOf(x); return x }, func(x *set) {
				if e := own.Set(x.b, at, n); e != api.ErrKept {
					t.Errorf("Set of %s: %v", what, e)
				}
			})
		}
	}
	x := start(t, 60)
	blocksOf(x)
	for _, at := range append([]int{60, 61}, nowhere...) {
		x.is(fmt.Sprint("Set of ", at), x.over(at, of()), api.ErrKept)
	}
}

// R3: a node that is handed in is not changed, nor its spare room, and nothing of it is kept.
func TestHandedIn(t *testing.T) {
	x := start(t, 60)
	for i, n := range []api.Node{leafOf(4, 5), kids(4, 5)} {
		keys, vals := append(make([]uint64, 0, 9), n.Keys...), append(make([]uint64, 0, 9), n.Vals...)
		spare := []uint64{7, 7, 7, 7, 7, 7, 7}
		copy(keys[2:9], spare)
		copy(vals[2:9], spare)
		h := api.Node{Leaf: n.Leaf, Keys: keys, Vals: vals}
		at := x.put(of())
		x.is("Set", x.over(at, h), api.OK)
		put, e := own.Put(x.b, h)
		x.is("Put", e, api.OK)
		x.took("Put", put, page(n))
		if !same(h, n) || !slices.Equal(keys[2:9], spare) || !slices.Equal(vals[2:9], spare) {
			t.Error(i, "is changed:", h)
		}
		keys[0], vals[1] = 0, 9
		x.has(at, n)
		x.has(put, n)
	}
	x.tells()
}

// P14.2: what is one's own stays, and nothing changes, room or not.
func TestOwnOwn(t *testing.T) {
	for what, at := range blocksOf(start(t, 60)) {
		if what[:3] != "own" {
			continue
		}
		for _, full := range []bool{false, true} {
			from := func() *set {
				x := start(t, 60)
				blocksOf(x)
				if full {
					x.some(x.b.Room())
				}
				return x
			}
			changesNothing(t, "Own of "+what, from, func(x *set) {
				if to, e := own.Own(x.b, at); to != at || e != api.OK {
					t.Errorf("Own of %s: %d %v", what, to, e)
				}
			})
		}
	}
}

// P14.2: a node that was committed, and is not shared, stands at a new block; its references go with it, and the old block waits.
func TestOwnCommitted(t *testing.T) {
	x := start(t, 60)
	l := x.some(3)
	for _, n := range []api.Node{leafOf(l...), of(), leafOf(l[0], l[0]), of(0, uint64(l[1]), 0), of(1<<64-1, 1, 2, 59, 60), kids(l[2], l[0]), kids(1, 2, 59, 60, 4095)} {
		was := x.put(n)
		x.commit()
		at := x.owned(was)
		if at == was {
			t.Fatal("what is committed is written over")
		}
		x.counts(1, append(l, at)...)
		x.counts(0, was)
		x.has(at, n)
		x.has(was, n) // it waits, and says what it said
		if x.b.Waits() != 1 {
			t.Error(x.b.Waits())
		}
		if again := x.owned(at); again != at {
			t.Error(again)
		}
		x.commit()
		x.has(at, n)
	}
}

// P14.2: a node that is shared stands at a new block; all that it refers to is referred to once more; the old one stays, with what it had.
func TestOwnShared(t *testing.T) {
	for _, committed := range []bool{false, true} {
		for count := 2; count < 5; count++ {
			x := start(t, 100)
			l := x.some(7)
			for _, n := range []api.Node{leafOf(l...), of(), of(0), leafOf(l[0], l[1], l[0]), of(0, uint64(l[1]), 0), of(0, 0, uint64(l[3])), kids(l[2]), kids(l...)} {
				was := x.put(n)
				for range count - 1 {
					x.up(was)
				}
				if committed {
					x.commit()
				}
				goesUp := slices.Clone(x.p.now)
				for _, val := range n.Vals {
					if val != 0 {
						goesUp[val]++
					}
				}
				at := x.owned(was)
				for _, data := range l {
					x.counts(goesUp[data], data)
				}
				x.counts(1, at)
				x.counts(count-1, was)
				x.has(at, n)
				x.has(was, n)
				x.mine(was, !committed && count == 2) // whoever is left has it for himself
				if x.b.Waits() != 0 {
					t.Error(x.b.Waits())
				}
			}
		}
	}
}

// P14.2: a node to which as many refer as may, and one that refers to itself.
func TestOwnOdd(t *testing.T) {
	x := start(t, 60)
	at := x.put(of(0))
	x.upTo(at, api.MaxRef)
	x.owned(at)
	x.counts(api.MaxRef-1, at)
	self := x.put(of())
	x.up(self)
	x.b.Over(self, page(leafOf(self)))
	x.p.fresh[self] = page(leafOf(self))
	to := x.owned(self)
	x.counts(2, self)
	x.counts(1, to)
	x.has(to, leafOf(self))
}

// trial is some values of a leaf that is shared, and what Own tells of it.
type trial struct {
	vals []uint64
	e    api.Errno
}

// trials put data that may go up often enough, and such that may not, and tell what Own tells of a leaf with these.
func trials(x *set) map[string]trial {
	l := x.some(4)
	x.upTo(l[0], api.MaxRef)
	x.upTo(l[1], api.MaxRef-1)
	x.upTo(l[2], api.MaxRef-2)
	x.down(l[3])
	full, one, two, gone := uint64(l[0]), uint64(l[1]), uint64(l[2]), uint64(l[3])
	out := map[string]trial{
		"0":                     {[]uint64{0}, api.OK},
		"MaxRef":                {[]uint64{full}, api.ErrRef},
		"MaxRef less 1":         {[]uint64{one}, api.OK},
		"MaxRef less 1, twice":  {[]uint64{one, one}, api.ErrRef},
		"MaxRef less 1, apart":  {[]uint64{one, 0, one}, api.ErrRef},
		"MaxRef less 2, twice":  {[]uint64{two, two}, api.OK},
		"MaxRef less 2, thrice": {[]uint64{two, two, two}, api.ErrRef},
		"no count any more":     {[]uint64{gone}, api.ErrTree},
		"MaxRef, and none":      {[]uint64{full, 59}, api.ErrRef},
		"none, and MaxRef":      {[]uint64{59, full}, api.ErrTree},
	}
	for _, val := range []uint64{1, uint64(x.p.pages[0]), uint64(x.p.pages[1]), 58, 60, 61, 4095, 4096, 4097, 65536 + 4, 1<<32 + 4, 1 << 63, 1<<63 + 4, 1<<64 - 4, 1<<64 - 1} {
		out[fmt.Sprint("the value ", val)] = trial{[]uint64{val}, api.ErrTree}
	}
	return out
}

// P14.2: values that may not go up, as the first, a middle, the last one of their node: then none goes up, and nothing changes. They are not asked, if the node is not shared.
func TestOwnValues(t *testing.T) {
	for what, v := range trials(start(t, 60)) {
		for i := range 3 {
			for _, committed := range []bool{false, true} {
				x := start(t, 60)
				trials(x)
				good := x.some(4)
				at := x.put(of(slices.Insert(vals(good), 2*i, v.vals...)...))
				if committed {
					x.commit()
					at = x.owned(at)
					x.counts(1, good...)
					x.commit()
				}
				x.up(at)
				before := x.state(false)
				to, e := x.own(at)
				x.is(fmt.Sprintf("Own, %s, place %d", what, 2*i), e, v.e)
				if e == api.OK {
					x.counts(2, good...)
					x.counts(1, at, to)
					continue
				}
				x.counts(1, good...)
				x.counts(2, at)
				if x.state(false) != before {
					t.Errorf("Own, %s, place %d: something has changed", what, 2*i)
				}
			}
		}
	}
}

// P14.2: the same of a node that is no leaf.
func TestOwnKids(t *testing.T) {
	for i := range 3 {
		for bad, want := range map[string]api.Errno{"full": api.ErrRef, "let go": api.ErrTree, "1": api.ErrTree, "a page": api.ErrTree, "none": api.ErrTree, "beyond": api.ErrTree} {
			x := start(t, 60)
			l := x.some(6)
			x.upTo(l[4], api.MaxRef)
			x.down(l[5])
			kid := map[string]int{"full": l[4], "let go": l[5], "1": 1, "a page": x.p.pages[0], "none": 50, "beyond": 60}[bad]
			at := x.put(kids(slices.Insert(slices.Clone(l[:4]), 2*i, kid)...))
			x.up(at)
			before := x.state(false)
			if to, e := x.own(at); to != 0 || e != want || x.state(false) != before {
				t.Errorf("Own, kid %d is %s: %d %v", 2*i, bad, to, e)
			}
		}
	}
}

// P14.2: where Own fails nothing has changed, also not which block is next; of several errors the first one counts.
func TestOwnChangesNothing(t *testing.T) {
	const data, full, leaf, none = 4, 5, 6, 29
	from := func(shared, room bool, vals ...uint64) func() *set {
		return func() *set {
			x := start(t, 30)
			x.some(2)
			x.upTo(full, api.MaxRef)
			if at := x.put(of(vals...)); at != leaf {
				t.Fatal(at)
			}
			x.commit()
			if shared {
				x.up(leaf)
			} else {
				x.down(leaf)
			}
			if !room {
				x.some(x.b.Room())
			}
			return x
		}
	}
	for _, c := range []struct {
		what string
		from func() *set
		want api.Errno
	}{
		{"a value with MaxRef", from(true, true, data, 0, data, full), api.ErrRef},
		{"a value without a count", from(true, true, data, 0, data, none), api.ErrTree},
		{"no room", from(true, false, data), api.ErrSpace},
		{"no room, and a value with MaxRef", from(true, false, full), api.ErrSpace},
		{"no room, and a value that is no block", from(true, false, 1), api.ErrSpace},
		{"a node that was let go", from(false, true, data, full, none), api.ErrCount},
		{"no room, and a node that was let go", from(false, false, data), api.ErrSpace},
	} {
		changesNothing(t, c.what, c.from, func(x *set) {
			if to, e := own.Own(x.b, leaf); to != 0 || e != c.want {
				t.Errorf("%s: %d %v, not %v", c.what, to, e, c.want)
			}
		})
	}
}

// P14.2: room 1 is enough, also for a node whose old block does not become free.
func TestOwnRoom(t *testing.T) {
	for _, committed := range []bool{false, true} {
		for count := 1; count < 4; count++ {
			if !committed && count == 1 {
				continue
			}
			x := start(t, 16)
			data := x.some(1)
			at := x.put(leafOf(data...))
			for range count - 1 {
				x.up(at)
			}
			if committed {
				x.commit()
			}
			x.some(x.b.Room())
			if to, e := x.own(at); to != 0 || e != api.ErrSpace {
				t.Fatal(to, e)
			}
			for i := range x.p.now {
				if x.p.fresh[i] != nil && i != at && i != data[0] {
					x.down(i)
					break
				}
			}
			if x.b.Room() != 1 {
				t.Fatal(x.b.Room())
			}
			x.owned(at)
			if x.b.Room() != 0 {
				t.Fatal(x.b.Room())
			}
		}
	}
}

// P14.2: blocks that have no node.
func TestOwnNone(t *testing.T) {
	all := blocksOf(start(t, 60))
	from := func() *set { x := start(t, 60); blocksOf(x); return x }
	for _, what := range []string{"noughts", "a count page", "a directory page", "data of old", "data", "data of noughts", "a fresh leaf, let go"} {
		changesNothing(t, "Own of "+what, from, func(x *set) {
			if to, e := own.Own(x.b, all[what]); to != 0 || e != api.ErrTree {
				t.Errorf("Own of %s: %d %v", what, to, e)
			}
		})
	}
	for _, at := range append([]int{60, 61}, nowhere...) {
		changesNothing(t, "Own of no block", from, func(x *set) {
			if to, e := own.Own(x.b, at); to != 0 || e != api.ErrArg {
				t.Errorf("Own(%d): %d %v", at, to, e)
			}
		})
	}
}

// P14.2: a disk that was laid by hand, so that a node stands where a count page has to be, and two refer to it: its block may not go down, and nothing may have gone up.
func TestOwnOfPage(t *testing.T) {
	for count := 1; count < 4; count++ {
		from := func() *set {
			x := start(t, 16)
			data := x.some(2)
			x.commit()
			at, leaf := x.p.pages[1], page(of(uint64(data[0]), 0, uint64(data[1]), uint64(data[0])))
			counts := slices.Clone(x.p.now)
			counts[at] = count
			x.is("Write", x.d.Write(at, countPage(counts)), api.OK)
			x.again()
			x.is("Write", x.d.Write(at, leaf), api.OK)
			x.p.says[at] = leaf
			return x
		}
		changesNothing(t, "Own of a page's block", from, func(x *set) {
			if to, e := x.own(x.p.pages[1]); to != 0 || e != api.ErrArg {
				t.Error(count, to, e)
			}
		})
		changesNothing(t, "Drop of a page's block", from, func(x *set) {
			if l, e := x.drop(x.p.pages[1], 0, api.OK); len(l) > 0 || e != api.ErrArg {
				t.Error(count, l, e)
			}
		})
	}
}
