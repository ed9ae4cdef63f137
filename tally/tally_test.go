package tally_test

import (
	"math"
	"math/rand"
	"slices"
	"testing"

	"catchment/api"
	"catchment/tally"
)

// sizes are how many blocks a tally may have: the edges, and ordinary ones.
var sizes = []int{1, 2, 3, 16, 61, 62, 255, 256, 4095, 4096}

// noSizes are how many it may not have.
var noSizes = []int{0, -1, -2, -4096, math.MinInt32, math.MinInt, 4097, 4098, 8192, 65535, 65536, 65537, 1 << 20, 1<<32 + 1, math.MaxInt}

// edges are counts that stand at an edge, and ordinary ones.
var edges = []uint16{0, 1, 2, 127, 128, 254, 255, 256, 257, 32767, 32768, 65533, 65534, 65535}

// outside are blocks that a tally of n has not, be n from 1 to 4096.
func outside(n int) []int {
	return []int{-1, -2, -n, -n - 1, math.MinInt32, math.MinInt, n, n + 1, 2 * n, 4096, 4097, 65536, 1 << 32, 1<<32 + n - 1, math.MaxInt}
}

// plain is what the words say of a tally: a count and a kept count a block.
type plain struct{ now, was []uint16 }

// plainOf answers what a tally of these counts is said to be.
func plainOf(counts []uint16) plain {
	return plain{slices.Clone(counts), slices.Clone(counts)}
}

func (p plain) free(b int) bool  { return p.now[b] == 0 && p.was[b] == 0 }
func (p plain) waits(b int) bool { return p.now[b] == 0 && p.was[b] != 0 }
func (p plain) keep()            { copy(p.was, p.now) }
func (p plain) back()            { copy(p.now, p.was) }

func (p plain) up(b int) api.Errno {
	switch {
	case b < 0 || b >= len(p.now):
		return api.ErrBlock
	case p.now[b] == 65535:
		return api.ErrRef
	}
	p.now[b]++
	return api.OK
}

func (p plain) down(b int) api.Errno {
	switch {
	case b < 0 || b >= len(p.now):
		return api.ErrBlock
	case p.now[b] == 0:
		return api.ErrCount
	}
	p.now[b]--
	return api.OK
}

// of makes a tally of counts, and must be let.
func of(t *testing.T, counts ...uint16) *tally.Tally {
	t.Helper()
	x, e := tally.Of(counts)
	if e != api.OK || x == nil {
		t.Fatalf("Of %d counts: %v %v", len(counts), x, e)
	}
	return x
}

// fresh makes a tally of so many blocks, and must be let.
func fresh(t *testing.T, blocks int) *tally.Tally {
	t.Helper()
	x, e := tally.New(blocks)
	if e != api.OK || x == nil {
		t.Fatalf("New(%d): %v %v", blocks, x, e)
	}
	return x
}

// up lets a block go up as often, and down the block go down as often; they must be let.
func up(t *testing.T, x *tally.Tally, b, times int) {
	t.Helper()
	for i := range times {
		if e := x.Up(b); e != api.OK {
			t.Fatalf("Up(%d), time %d: %v", b, i, e)
		}
	}
}

func down(t *testing.T, x *tally.Tally, b, times int) {
	t.Helper()
	for i := range times {
		if e := x.Down(b); e != api.OK {
			t.Fatalf("Down(%d), time %d: %v", b, i, e)
		}
	}
}

// tells holds all that a tally tells against what the words say, block by block.
func tells(t *testing.T, x *tally.Tally, p plain) {
	t.Helper()
	if x.Blocks() != len(p.now) {
		t.Fatalf("Blocks: %d, not %d", x.Blocks(), len(p.now))
	}
	var frees, waits int
	var changed []int
	for b := range p.now {
		if x.Get(b) != int(p.now[b]) {
			t.Errorf("Get(%d): %d, not %d", b, x.Get(b), p.now[b])
		}
		if x.Free(b) != p.free(b) {
			t.Errorf("Free(%d): %v; its count is %d, its kept one %d", b, x.Free(b), p.now[b], p.was[b])
		}
		if p.free(b) {
			frees++
		}
		if p.waits(b) {
			waits++
		}
		if p.now[b] != p.was[b] {
			changed = append(changed, b)
		}
	}
	if x.Frees() != frees || x.Waits() != waits {
		t.Errorf("Frees %d, Waits %d, not %d, %d", x.Frees(), x.Waits(), frees, waits)
	}
	if got := x.Changed(); !slices.Equal(got, changed) {
		t.Errorf("Changed: %v, not %v", got, changed)
	}
	for _, b := range outside(len(p.now)) {
		if x.Get(b) != 0 || x.Free(b) {
			t.Errorf("block %d of %d: Get %d, Free %v", b, len(p.now), x.Get(b), x.Free(b))
		}
	}
}

// P8.1 to P8.3: the examples.
func TestExamples(t *testing.T) {
	x := fresh(t, 3)
	up(t, x, 1, 2)
	down(t, x, 1, 1)
	if x.Get(1) != 1 || x.Frees() != 2 {
		t.Error(x.Get(1), x.Frees())
	}
	x.Keep()
	down(t, x, 1, 1)
	if x.Free(1) || x.Waits() != 1 || !slices.Equal(x.Changed(), []int{1}) {
		t.Error(x.Free(1), x.Waits(), x.Changed())
	}
	x.Keep()
	if x.Frees() != 3 {
		t.Error(x.Frees())
	}
	up(t, x, 2, 1)
	x.Back()
	if x.Get(2) != 0 {
		t.Error(x.Get(2))
	}
	if e := x.Down(0); e != api.ErrCount {
		t.Error(e)
	}
	if e := x.Up(3); e != api.ErrBlock {
		t.Error(e)
	}
}

// P8.1: a new tally has as many blocks as it is asked for, all of them free.
func TestNew(t *testing.T) {
	for _, n := range sizes {
		tells(t, fresh(t, n), plainOf(make([]uint16, n)))
	}
}

// P8.1, R2: a tally of fewer blocks than one, or of more than 4096, is none.
func TestNewOfTooFewAndTooMany(t *testing.T) {
	for _, n := range noSizes {
		if x, e := tally.New(n); e != api.ErrArg || x != nil {
			t.Errorf("New(%d): %v %v", n, x, e)
		}
	}
}

// P8.1: a tally of counts has them, and they are kept ones.
func TestOf(t *testing.T) {
	for _, n := range sizes {
		for at := range edges {
			counts := make([]uint16, n)
			for b := range counts {
				counts[b] = edges[(at+b)%len(edges)]
			}
			x := of(t, counts...)
			tells(t, x, plainOf(counts))
			x.Back()
			tells(t, x, plainOf(counts))
			x.Keep()
			tells(t, x, plainOf(counts))
		}
	}
	for _, n := range []uint16{0, 1, 65534, 65535} {
		all := slices.Repeat([]uint16{n}, 4096)
		tells(t, of(t, all...), plainOf(all))
	}
}

// P8.1, R2, R6: no counts, be they an empty list or none, and more than 4096 are no tally, whatever they are.
func TestOfTooFewAndTooMany(t *testing.T) {
	for _, counts := range [][]uint16{nil, {}, edges[:0], make([]uint16, 4097), make([]uint16, 4098), make([]uint16, 65536), make([]uint16, 65537), make([]uint16, 1<<20), slices.Repeat([]uint16{65535}, 4097)} {
		if x, e := tally.Of(counts); e != api.ErrArg || x != nil {
			t.Errorf("Of %d counts: %v %v", len(counts), x, e)
		}
	}
	room := make([]uint16, 1, 5000)
	tells(t, of(t, room...), plainOf([]uint16{0}))
	tells(t, of(t, make([]uint16, 5000)[:4096]...), plainOf(make([]uint16, 4096)))
}

// P8.2: Up and Down change a block's count by one, and no other block's, wherever it stands.
func TestUpAndDown(t *testing.T) {
	for _, n := range sizes {
		for _, b := range []int{0, n / 2, n - 1} {
			x, p := fresh(t, n), plainOf(make([]uint16, n))
			for _, move := range []int{1, 1, -1, 1, 1, -1, -1, -1} {
				p.now[b] += uint16(move)
				if move > 0 {
					up(t, x, b, 1)
				} else {
					down(t, x, b, 1)
				}
				tells(t, x, p)
			}
		}
	}
}

// P8.2: a count of 65534 goes up once more, one of 1 down once more; one of 65535 does not go up, one of 0 not down, and it stays as it is, however often it is tried.
func TestEndsOfCounts(t *testing.T) {
	for _, kept := range edges {
		x, p := of(t, 7, kept, 7), plainOf([]uint16{7, kept, 7})
		for range 3 {
			for range 65535 - int(p.now[1]) {
				up(t, x, 1, 1)
			}
			p.now[1] = 65535
			for range 3 {
				if e := x.Up(1); e != api.ErrRef {
					t.Error(kept, e)
				}
				tells(t, x, p)
			}
			down(t, x, 1, 1)
			p.now[1] = 65534
			tells(t, x, p)
			down(t, x, 1, 65534)
			p.now[1] = 0
			for range 3 {
				if e := x.Down(1); e != api.ErrCount {
					t.Error(kept, e)
				}
				tells(t, x, p)
			}
			up(t, x, 1, 1)
			p.now[1] = 1
			tells(t, x, p)
		}
		x.Back()
		tells(t, x, plainOf([]uint16{7, kept, 7}))
	}
}

// P8.2: each count from 0 to 65535 is come to, up and down.
func TestAllCounts(t *testing.T) {
	x := fresh(t, 2)
	for n := 1; n <= 65535; n++ {
		up(t, x, 1, 1)
		if x.Get(1) != n || x.Get(0) != 0 {
			t.Fatal(n, x.Get(1), x.Get(0))
		}
	}
	if e := x.Up(1); e != api.ErrRef || x.Get(1) != 65535 {
		t.Error(e, x.Get(1))
	}
	for n := 65534; n >= 0; n-- {
		down(t, x, 1, 1)
		if x.Get(1) != n || x.Get(0) != 0 {
			t.Fatal(n, x.Get(1), x.Get(0))
		}
	}
	if e := x.Down(1); e != api.ErrCount || x.Get(1) != 0 {
		t.Error(e, x.Get(1))
	}
}

// P8.1 to P8.3, R2, R7: of blocks below 0, and from Blocks on, there is nothing to tell or to change.
func TestBlocksThatAreNot(t *testing.T) {
	for _, n := range sizes {
		for _, c := range []uint16{0, 1, 65535} {
			counts := slices.Repeat([]uint16{c}, n)
			x, p := of(t, counts...), plainOf(counts)
			for _, b := range outside(n) {
				if e := x.Up(b); e != api.ErrBlock {
					t.Errorf("Up(%d) of %d blocks: %v", b, n, e)
				}
				if e := x.Down(b); e != api.ErrBlock {
					t.Errorf("Down(%d) of %d blocks: %v", b, n, e)
				}
				if x.Get(b) != 0 || x.Free(b) {
					t.Errorf("block %d of %d: Get %d, Free %v", b, n, x.Get(b), x.Free(b))
				}
			}
			tells(t, x, p)
			if x.Up(-1) != api.ErrBlock || x.Up(n) != api.ErrBlock || x.Down(-1) != api.ErrBlock || x.Down(n) != api.ErrBlock {
				t.Error(n, "blocks: -1 and", n)
			}
		}
	}
}

// P8.2, P8.3: what is refused changes nothing: neither a count nor a kept one.
func TestRefusalsChangeNothing(t *testing.T) {
	refused := func(x *tally.Tally) {
		if x.Down(0) != api.ErrCount || x.Up(1) != api.ErrRef || x.Up(-1) != api.ErrBlock || x.Down(-1) != api.ErrBlock || x.Up(3) != api.ErrBlock || x.Down(3) != api.ErrBlock {
			t.Error("not refused")
		}
	}
	x, p := of(t, 0, 65535, 5), plainOf([]uint16{0, 65535, 5})
	refused(x)
	tells(t, x, p)
	down(t, x, 2, 1)
	p.now[2] = 4
	refused(x)
	tells(t, x, p)
	x.Back()
	p.back()
	refused(x)
	tells(t, x, p)
	up(t, x, 0, 1)
	down(t, x, 1, 1)
	x.Keep()
	down(t, x, 0, 1)
	up(t, x, 1, 1)
	p = plain{[]uint16{0, 65535, 5}, []uint16{1, 65534, 5}}
	refused(x)
	tells(t, x, p)
	x.Back()
	p.back()
	tells(t, x, p)
}

// P8.3, P8.4: a count that goes away from the kept one, however far, and comes back has not changed.
func TestThereAndBack(t *testing.T) {
	for _, kept := range []uint16{0, 1, 2, 5, 65533, 65534, 65535} {
		for _, far := range []int{1, 2, 3, 300} {
			x, p := of(t, 3, kept), plainOf([]uint16{3, kept})
			if far <= 65535-int(kept) {
				up(t, x, 1, far)
				tells(t, x, plain{[]uint16{3, kept + uint16(far)}, p.was})
				down(t, x, 1, far)
				tells(t, x, p)
			}
			if far <= int(kept) {
				down(t, x, 1, far)
				tells(t, x, plain{[]uint16{3, kept - uint16(far)}, p.was})
				up(t, x, 1, far)
				tells(t, x, p)
			}
			up(t, x, 0, 1)
			x.Back()
			tells(t, x, p)
		}
	}
}

// P8.3: a block passes its kept count on its way, and is changed on both sides of it.
func TestThroughTheKeptCount(t *testing.T) {
	x, p := of(t, 1, 2, 1), plainOf([]uint16{1, 2, 1})
	for range 3 {
		for _, b := range []int{2, 1} {
			down(t, x, b, 1)
			p.down(b)
			tells(t, x, p)
		}
		for range 3 {
			for _, b := range []int{1, 2} {
				up(t, x, b, 1)
				p.up(b)
				tells(t, x, p)
			}
		}
		for range 2 {
			for _, b := range []int{2, 1} {
				down(t, x, b, 1)
				p.down(b)
				tells(t, x, p)
			}
		}
	}
}

// P8.3, P8.4: a block that was kept waits once nothing refers to it; a Keep frees it, a Back gives it its count again; it does not wait if it is referred to once more.
func TestWaiting(t *testing.T) {
	for _, kept := range []uint16{1, 2, 300, 65535} {
		counts := []uint16{0, kept, 4}
		x, p := of(t, counts...), plainOf(counts)
		down(t, x, 1, int(kept)-1)
		if x.Waits() != 0 || x.Frees() != 1 {
			t.Error(kept, "a count of 1 waits")
		}
		down(t, x, 1, 1)
		p.now[1] = 0
		tells(t, x, p)
		if x.Free(1) || x.Waits() != 1 || x.Frees() != 1 {
			t.Error(kept, x.Free(1), x.Waits(), x.Frees())
		}
		up(t, x, 1, 1)
		p.now[1] = 1
		tells(t, x, p)
		down(t, x, 1, 1)
		x.Back()
		p.back()
		tells(t, x, p)
		down(t, x, 1, int(kept))
		x.Keep()
		p = plainOf([]uint16{0, 0, 4})
		tells(t, x, p)
		if !x.Free(1) || x.Waits() != 0 || x.Frees() != 2 {
			t.Error(kept, x.Free(1), x.Waits(), x.Frees())
		}
		x.Back()
		tells(t, x, p)
		up(t, x, 1, 2)
		down(t, x, 1, 2)
		tells(t, x, p)
	}
}

// P8.3: a block that was put behind the last Keep does not wait once it is let go: it is free at once.
func TestWhatWasNotKept(t *testing.T) {
	x, p := fresh(t, 3), plainOf(make([]uint16, 3))
	up(t, x, 1, 2)
	p.now[1] = 2
	tells(t, x, p)
	down(t, x, 1, 2)
	p.now[1] = 0
	tells(t, x, p)
	if !x.Free(1) || x.Waits() != 0 {
		t.Error(x.Free(1), x.Waits())
	}
	up(t, x, 1, 1)
	x.Back()
	tells(t, x, p)
}

// P8.3: nothing that has changed, one block, and all of them, at the edges of how many blocks there are; they are told rising, in whichever order they changed.
func TestChanged(t *testing.T) {
	r := rand.New(rand.NewSource(3))
	for _, n := range sizes {
		for _, c := range []uint16{0, 1, 65535} {
			counts := slices.Repeat([]uint16{c}, n)
			x, p := of(t, counts...), plainOf(counts)
			order := r.Perm(n)
			for i, b := range order {
				if c == 0 {
					up(t, x, b, 1)
					p.up(b)
				} else {
					down(t, x, b, 1)
					p.down(b)
				}
				if i < 3 || i > n-3 {
					tells(t, x, p)
				}
			}
			if len(x.Changed()) != n {
				t.Error(n, "blocks:", len(x.Changed()), "have changed")
			}
			x.Back()
			tells(t, x, plainOf(counts))
			for b := range n {
				if c == 0 {
					up(t, x, n-1-b, 1)
				} else {
					down(t, x, n-1-b, 1)
				}
			}
			tells(t, x, p)
			x.Keep()
			tells(t, x, plainOf(p.now))
			x.Back()
			tells(t, x, plainOf(p.now))
		}
	}
}

// P8.3: Keep and Back, again and again: each goes by the last Keep alone.
func TestKeepAndBack(t *testing.T) {
	x, p := of(t, 0, 1, 2), plainOf([]uint16{0, 1, 2})
	for i := range 40 {
		switch b := i % 3; {
		case i%4 == 3:
			down(t, x, 2, 1)
			p.down(2)
		default:
			up(t, x, b, 1)
			p.up(b)
		}
		switch i % 5 {
		case 1:
			x.Keep()
			p.keep()
		case 2, 4:
			x.Back()
			p.back()
		}
		tells(t, x, p)
		switch i % 7 {
		case 3:
			x.Back()
			x.Keep()
			x.Back()
			p.back()
		case 5:
			x.Keep()
			x.Keep()
			x.Back()
			p.keep()
		}
		tells(t, x, p)
	}
}

// P8.4: Up and Down are each other's way back, whatever a count and its kept count are.
func TestEachOthersWayBack(t *testing.T) {
	for _, kept := range edges {
		for _, now := range []int{-2, -1, 0, 1, 2} {
			n := int(kept) + now
			if n < 0 || n > 65535 {
				continue
			}
			x, p := of(t, kept, 1), plain{[]uint16{uint16(n), 1}, []uint16{kept, 1}}
			up(t, x, 0, max(now, 0))
			down(t, x, 0, max(-now, 0))
			tells(t, x, p)
			if x.Up(0) == api.OK {
				down(t, x, 0, 1)
			}
			tells(t, x, p)
			if x.Down(0) == api.OK {
				up(t, x, 0, 1)
			}
			tells(t, x, p)
		}
	}
}

// P8.4: a block whose kept count is not 0 becomes free by a Keep alone: by no other call, nor by many of them.
func TestOnlyAKeepFrees(t *testing.T) {
	r := rand.New(rand.NewSource(4))
	for range 200 {
		x := of(t, uint16(1+r.Intn(3)), uint16(r.Intn(2)), 0)
		for range 100 {
			switch r.Intn(6) {
			case 0:
				x.Up(r.Intn(5) - 1)
			case 1:
				x.Back()
			case 2:
				x.Frees()
				x.Waits()
				x.Changed()
			default:
				x.Down(r.Intn(5) - 1)
			}
			if x.Free(0) {
				t.Fatal("free, and was not kept as such")
			}
		}
		down(t, x, 0, x.Get(0))
		if x.Free(0) {
			t.Fatal("free, and was not kept as such")
		}
		x.Keep()
		if !x.Free(0) {
			t.Fatal("not free behind a Keep")
		}
	}
}

// P8.1 to P8.4: what is done by chance comes to what the words say, step by step.
func TestAgainstTheWords(t *testing.T) {
	r := rand.New(rand.NewSource(8))
	few := []uint16{0, 0, 1, 1, 2, 65534, 65535}
	met := map[api.Errno]int{}
	for range 300 {
		counts := make([]uint16, 1+r.Intn(9))
		for b := range counts {
			counts[b] = few[r.Intn(len(few))]
		}
		x, p := of(t, counts...), plainOf(counts)
		for range 120 {
			b := r.Intn(len(counts)+2) - 1
			switch r.Intn(20) {
			case 0:
				x.Keep()
				p.keep()
			case 1:
				x.Back()
				p.back()
			case 2, 3, 4, 5, 6, 7, 8, 9, 10:
				want := p.up(b)
				met[want]++
				if e := x.Up(b); e != want {
					t.Fatalf("Up(%d): %v, not %v", b, e, want)
				}
			default:
				want := p.down(b)
				met[want]++
				if e := x.Down(b); e != want {
					t.Fatalf("Down(%d): %v, not %v", b, e, want)
				}
			}
			tells(t, x, p)
			if t.Failed() {
				t.Fatal(counts)
			}
		}
	}
	for _, e := range []api.Errno{api.OK, api.ErrBlock, api.ErrRef, api.ErrCount} {
		if met[e] < 100 {
			t.Error("too few of a kind:", met)
		}
	}
}

// P8.1 to P8.3, R5: of no tally, and of one that New or Of did not answer, nothing is told or done, whatever is asked.
func TestNoTally(t *testing.T) {
	real := of(t, 0, 3, 0)
	up(t, real, 0, 1)
	down(t, real, 1, 3)
	byValue := *real
	over := of(t, 5, 5)
	*over = *real
	emptied := fresh(t, 3)
	*emptied = tally.Tally{}
	refused, _ := tally.New(0)
	long, _ := tally.Of(make([]uint16, 4097))
	for i, x := range []*tally.Tally{nil, {}, new(tally.Tally), &byValue, over, emptied, refused, long} {
		for range 2 {
			for _, b := range []int{-1, 0, 1, 2, 3, math.MinInt, math.MaxInt} {
				if e := x.Up(b); e != api.ErrNil {
					t.Errorf("tally %d: Up(%d): %v", i, b, e)
				}
				if e := x.Down(b); e != api.ErrNil {
					t.Errorf("tally %d: Down(%d): %v", i, b, e)
				}
				if x.Get(b) != 0 || x.Free(b) {
					t.Errorf("tally %d: block %d: %d %v", i, b, x.Get(b), x.Free(b))
				}
			}
			if x.Blocks() != 0 || x.Frees() != 0 || x.Waits() != 0 || len(x.Changed()) != 0 {
				t.Errorf("tally %d: %d %d %d %v", i, x.Blocks(), x.Frees(), x.Waits(), x.Changed())
			}
			x.Keep()
			x.Back()
		}
	}
	tells(t, real, plain{[]uint16{1, 0, 0}, []uint16{0, 3, 0}})
}

// R3: counts that are handed in are not changed, their spare room neither, whatever is done with the tally.
func TestWhatIsHandedIn(t *testing.T) {
	room := []uint16{0, 1, 65535, 9, 8, 7}
	was := slices.Clone(room)
	x := of(t, room[:3]...)
	for range 2 {
		x.Up(0)
		x.Down(1)
		x.Down(2)
		x.Changed()
		x.Back()
		x.Down(1)
		x.Up(3)
		x.Up(0)
		x.Keep()
	}
	tally.Of(room[:0])
	if !slices.Equal(room, was) {
		t.Error("counts that were handed in were changed:", room)
	}
	many := make([]uint16, 5000)
	many[4999] = 3
	tally.Of(many)
	if slices.Max(many) != 3 || slices.Index(many, 3) != 4999 {
		t.Error("counts that were refused were changed")
	}
}

// P8.1, R3: counts that are handed in are not kept: neither what is kept of them, nor what they are now, hangs on that memory.
func TestCountsWrittenOver(t *testing.T) {
	for _, n := range sizes {
		counts := make([]uint16, n, n+5)
		for b := range counts {
			counts[b] = edges[b%len(edges)]
		}
		p := plainOf(counts)
		x := of(t, counts...)
		y := of(t, counts...)
		for _, by := range []uint16{77, 0, 65535} {
			for b := range counts[:n+5] {
				counts[:n+5][b] = by
			}
			tells(t, x, p)
			x.Back()
			tells(t, x, p)
			x.Up(0)
			x.Back()
			tells(t, x, p)
			x.Keep()
			tells(t, x, p)
			y.Up(n / 2)
			y.Down(n / 2)
			y.Keep()
		}
	}
}

// P8.3, R3: what Changed answered is the caller's: written over, it changes no tally and no other answer, and later changes do not change it.
func TestAnswersWrittenOver(t *testing.T) {
	x, p := of(t, 0, 1, 2, 3, 4), plainOf([]uint16{0, 1, 2, 3, 4})
	for _, b := range []int{4, 1, 3} {
		up(t, x, b, 1)
		p.up(b)
	}
	one, two := x.Changed(), x.Changed()
	for i := range one {
		one[i] = 0
	}
	_ = append(one[:0], 2, 2, 2, 2, 2)
	if !slices.Equal(two, []int{1, 3, 4}) {
		t.Error("two answers share memory:", two)
	}
	tells(t, x, p)
	up(t, x, 0, 1)
	down(t, x, 3, 1)
	x.Changed()
	x.Keep()
	up(t, x, 2, 1)
	x.Changed()
	if !slices.Equal(two, []int{1, 3, 4}) {
		t.Error("an answer is changed by what is done later:", two)
	}
	x.Back()
	tells(t, x, plainOf([]uint16{1, 2, 2, 3, 5}))
}

// R4: tallies are apart from each other, also those of the same counts.
func TestTalliesAreApart(t *testing.T) {
	counts := []uint16{0, 1, 2}
	x, y, z := of(t, counts...), of(t, counts...), fresh(t, 3)
	up(t, x, 0, 2)
	down(t, y, 1, 1)
	up(t, z, 2, 1)
	tells(t, x, plain{[]uint16{2, 1, 2}, counts})
	tells(t, y, plain{[]uint16{0, 0, 2}, counts})
	tells(t, z, plain{[]uint16{0, 0, 1}, []uint16{0, 0, 0}})
	x.Keep()
	y.Back()
	tells(t, x, plainOf([]uint16{2, 1, 2}))
	tells(t, y, plainOf(counts))
	tells(t, z, plain{[]uint16{0, 0, 1}, []uint16{0, 0, 0}})
}
