package pick_test

import (
	"math"
	"math/rand"
	"slices"
	"testing"

	"catchment/api"
	"catchment/pick"
	"catchment/tally"
)

// sizes are how many blocks a tally may have: the edges, and ordinary ones.
var sizes = []int{1, 2, 3, 16, 61, 62, 4095, 4096}

// below are numbers that are no block, no first one, and no number to be asked for.
var below = []int{-1, -2, -16, -4096, math.MinInt32, math.MinInt + 1, math.MinInt}

// firsts are the first blocks that a pick of n blocks may have: the edges, and ordinary ones.
func firsts(n int) []int {
	l := []int{0, 1, 2, n / 2, n - 2, n - 1, n}
	slices.Sort(l)
	l = slices.Compact(l)
	return slices.DeleteFunc(l, func(first int) bool { return first < 0 || first > n })
}

// plain is what the words say of a pick, and of the tally whose blocks it hands out.
type plain struct {
	now, was           []int
	first, next, asked int
}

func plainOf(counts []int, first int) *plain {
	return &plain{now: slices.Clone(counts), was: slices.Clone(counts), first: first, next: first}
}

func (p *plain) free(b int) bool { return p.now[b] == 0 && p.was[b] == 0 }
func (p *plain) keep()           { copy(p.was, p.now) }
func (p *plain) back()           { copy(p.now, p.was) }

func (p *plain) room() int {
	n := 0
	for b := range p.now {
		if b >= p.first && p.free(b) {
			n++
		}
	}
	return n
}

// take looks at each block once, wherever the next one is: those behind the last one are those from the first one on.
func (p *plain) take() (int, api.Errno) {
	many := len(p.now) - p.first
	for i := range many {
		b := p.first + (p.next-p.first+i)%many
		if p.free(b) {
			p.now[b]++
			p.next = p.first + (b+1-p.first)%many
			return b, api.OK
		}
	}
	return 0, api.ErrSpace
}

func (p *plain) ask(n int) api.Errno {
	switch {
	case n < 0:
		return api.ErrArg
	case n > p.room()-p.asked:
		return api.ErrSpace
	}
	p.asked += n
	return api.OK
}

func (p *plain) done(n int) api.Errno {
	switch {
	case n < 0:
		return api.ErrArg
	case n > p.asked:
		return api.ErrAsked
	}
	p.asked -= n
	return api.OK
}

// pair is a tally, a pick of it, and what the words say of both.
type pair struct {
	tally *tally.Tally
	pick  *pick.Pick
	plain *plain
}

// of makes a pick of a tally that has these counts as kept ones, from a first block on.
func of(t *testing.T, first int, counts ...int) pair {
	t.Helper()
	short := make([]uint16, len(counts))
	for b, n := range counts {
		short[b] = uint16(n)
	}
	x, e := tally.Of(short)
	if e != api.OK {
		t.Fatalf("a tally of %d counts: %v", len(counts), e)
	}
	p, e := pick.New(x, first)
	if e != api.OK || p == nil {
		t.Fatalf("New of %d blocks, first %d: %v %v", len(counts), first, p, e)
	}
	return pair{x, p, plainOf(counts, first)}
}

// fresh makes a pick of so many blocks, all free.
func fresh(t *testing.T, blocks, first int) pair {
	t.Helper()
	return of(t, first, make([]int, blocks)...)
}

// tells holds all that a pick tells, and all counts of its tally, against what the words say; asking changes neither.
func (x pair) tells(t *testing.T) {
	t.Helper()
	for range 2 {
		if x.pick.Room() != x.plain.room() || x.pick.Next() != x.plain.next || x.pick.Asked() != x.plain.asked {
			t.Fatalf("Room %d, Next %d, Asked %d, not %d, %d, %d", x.pick.Room(), x.pick.Next(), x.pick.Asked(), x.plain.room(), x.plain.next, x.plain.asked)
		}
	}
	if x.tally.Blocks() != len(x.plain.now) {
		t.Fatalf("%d blocks, not %d", x.tally.Blocks(), len(x.plain.now))
	}
	for b := range x.plain.now {
		if x.tally.Get(b) != x.plain.now[b] || x.tally.Free(b) != x.plain.free(b) {
			t.Fatalf("block %d: its count is %d, free %v; not %d, %v", b, x.tally.Get(b), x.tally.Free(b), x.plain.now[b], x.plain.free(b))
		}
	}
}

// take takes once, and holds what is answered, and what is told behind it, against the words.
func (x pair) take(t *testing.T) (int, api.Errno) {
	t.Helper()
	want, wantErr := x.plain.take()
	b, e := x.pick.Take()
	if b != want || e != wantErr {
		t.Fatalf("Take: %d %v, not %d %v", b, e, want, wantErr)
	}
	x.tells(t)
	return b, e
}

// takes takes as often as there are blocks told, which have to be handed out in that order.
func (x pair) takes(t *testing.T, blocks ...int) {
	t.Helper()
	for i, want := range blocks {
		if b, e := x.take(t); b != want || e != api.OK {
			t.Fatalf("Take %d: %d %v, not %d", i, b, e, want)
		}
	}
}

// refuses takes some times; there must be no room, and nothing may change.
func (x pair) refuses(t *testing.T) {
	t.Helper()
	for range 3 {
		if b, e := x.take(t); b != 0 || e != api.ErrSpace {
			t.Fatalf("Take without room: %d %v", b, e)
		}
	}
}

// asks asks for room; it has to be answered so.
func (x pair) asks(t *testing.T, n int, want api.Errno) {
	t.Helper()
	if plain := x.plain.ask(n); plain != want {
		t.Fatalf("the words say %v of Ask(%d), not %v", plain, n, want)
	}
	if e := x.pick.Ask(n); e != want {
		t.Fatalf("Ask(%d): %v, not %v", n, e, want)
	}
	x.tells(t)
}

// done gives room back; it has to be answered so.
func (x pair) done(t *testing.T, n int, want api.Errno) {
	t.Helper()
	if plain := x.plain.done(n); plain != want {
		t.Fatalf("the words say %v of Done(%d), not %v", plain, n, want)
	}
	if e := x.pick.Done(n); e != want {
		t.Fatalf("Done(%d): %v, not %v", n, e, want)
	}
	x.tells(t)
}

// up and down change a block's count in the tally, beside the pick; they must be let.
func (x pair) up(t *testing.T, blocks ...int) {
	t.Helper()
	for _, b := range blocks {
		if e := x.tally.Up(b); e != api.OK {
			t.Fatalf("Up(%d): %v", b, e)
		}
		x.plain.now[b]++
	}
	x.tells(t)
}

func (x pair) down(t *testing.T, blocks ...int) {
	t.Helper()
	for _, b := range blocks {
		if e := x.tally.Down(b); e != api.OK {
			t.Fatalf("Down(%d): %v", b, e)
		}
		x.plain.now[b]--
	}
	x.tells(t)
}

func (x pair) keep(t *testing.T) {
	t.Helper()
	x.tally.Keep()
	x.plain.keep()
	x.tells(t)
}

func (x pair) back(t *testing.T) {
	t.Helper()
	x.tally.Back()
	x.plain.back()
	x.tells(t)
}

// P9.1 to P9.3: the examples.
func TestExamples(t *testing.T) {
	x := fresh(t, 5, 2)
	if x.pick.Room() != 3 {
		t.Error(x.pick.Room())
	}
	x.takes(t, 2, 3)
	if x.pick.Next() != 4 {
		t.Error(x.pick.Next())
	}
	x.down(t, 2)
	if x.pick.Room() != 2 {
		t.Error(x.pick.Room())
	}
	x.takes(t, 4)
	if x.pick.Next() != 2 {
		t.Error(x.pick.Next())
	}
	x.takes(t, 2)
	x.refuses(t)
	y := fresh(t, 5, 2)
	y.asks(t, 1, api.OK)
	if y.pick.Asked() != 1 {
		t.Error(y.pick.Asked())
	}
	y.asks(t, 3, api.ErrSpace)
	y.done(t, 2, api.ErrAsked)
}

// P9.1: a pick may begin at each block of a tally, and behind the last one, be the blocks free or not; that changes nothing of the tally.
func TestNew(t *testing.T) {
	for _, n := range sizes {
		for _, first := range firsts(n) {
			x := fresh(t, n, first)
			if x.pick.Room() != n-first || x.pick.Next() != first || x.pick.Asked() != 0 {
				t.Error(n, first, x.pick.Room(), x.pick.Next(), x.pick.Asked())
			}
			x.tells(t)
			x.keep(t)
			x.back(t)
			x = of(t, first, slices.Repeat([]int{3}, n)...)
			x.tells(t)
			if len(x.tally.Changed()) != 0 {
				t.Error(n, first, x.tally.Changed())
			}
		}
	}
}

// P9.1: a tally that has changed since its last Keep has a pick, too, and New neither keeps what has changed nor takes it back.
func TestNewOfWhatHasChanged(t *testing.T) {
	x := of(t, 0, 0, 1, 0, 4)
	x.up(t, 0, 3)
	x.down(t, 1)
	p, e := pick.New(x.tally, 1)
	if e != api.OK || p.Room() != 1 || p.Next() != 1 {
		t.Fatal(e, p.Room(), p.Next())
	}
	x.tells(t)
	if !slices.Equal(x.tally.Changed(), []int{0, 1, 3}) || x.tally.Waits() != 1 {
		t.Error(x.tally.Changed(), x.tally.Waits())
	}
	x.back(t)
	if p.Room() != 1 {
		t.Error(p.Room())
	}
}

// P9.1: where a pick looks first is the first block, also if that one is not free, nor any one.
func TestNextOfANewPick(t *testing.T) {
	for _, counts := range [][]int{{0, 0, 0, 0}, {0, 0, 7, 0}, {1, 1, 1, 1}, {0, 0, 65535, 2}} {
		x := of(t, 2, counts...)
		if x.pick.Next() != 2 {
			t.Error(counts, x.pick.Next())
		}
	}
}

// P9.1, R2: a first block below 0, and more than one behind the last block, is none; nothing of the tally changes.
func TestNewFromNoBlock(t *testing.T) {
	for _, n := range sizes {
		x := fresh(t, n, 0)
		x.up(t, n/2)
		for _, first := range slices.Concat(below, []int{-n, -n - 1, n + 1, n + 2, 2 * n, 2*n + 1, 4097, 65536 + n, 1<<32 + n, 1 << 40, math.MaxInt}) {
			if p, e := pick.New(x.tally, first); e != api.ErrArg || p != nil {
				t.Errorf("New of %d blocks, first %d: %v %v", n, first, p, e)
			}
		}
		x.tells(t)
	}
}

// P9.1, R2, R5: a tally that is nil, or was not made, is none, whichever block is the first one: that error counts ahead of any other.
func TestNewOfNoTally(t *testing.T) {
	real := fresh(t, 4, 0)
	byValue := *real.tally
	over := fresh(t, 5, 0).tally
	*over = *real.tally
	emptied := fresh(t, 3, 0).tally
	*emptied = tally.Tally{}
	refused, _ := tally.New(0)
	long, _ := tally.Of(make([]uint16, 4097))
	for i, none := range []*tally.Tally{nil, {}, new(tally.Tally), &byValue, over, emptied, refused, long} {
		for _, first := range slices.Concat(below, []int{0, 1, 2, 3, 4, 5, 4096, 4097, math.MaxInt}) {
			if p, e := pick.New(none, first); e != api.ErrNil || p != nil {
				t.Errorf("New of tally %d, first %d: %v %v", i, first, p, e)
			}
		}
	}
	real.tells(t)
}

// P9.1: the room is the blocks that are free from the first one on: none that has a count, that waits, or that is ahead.
func TestRoom(t *testing.T) {
	counts := []int{0, 1, 0, 65535, 0, 2, 1, 0}
	for first, want := range []int{4, 3, 3, 2, 2, 1, 1, 1, 0} {
		x := of(t, first, counts...)
		if x.pick.Room() != want {
			t.Errorf("first %d: Room %d, not %d", first, x.pick.Room(), want)
		}
		x.down(t, 6)
		if x.pick.Room() != want {
			t.Errorf("first %d: Room %d, not %d, while a block waits", first, x.pick.Room(), want)
		}
		x.keep(t)
		if first <= 6 {
			want++
		}
		if x.pick.Room() != want {
			t.Errorf("first %d: Room %d, not %d, behind a Keep", first, x.pick.Room(), want)
		}
	}
}

// P9.1: the room is what is free from the first one on wherever Next is: what is ahead of Next is room, too.
func TestRoomAheadOfNext(t *testing.T) {
	x := fresh(t, 6, 1)
	x.takes(t, 1, 2, 3)
	x.down(t, 1, 2)
	if x.pick.Next() != 4 || x.pick.Room() != 4 {
		t.Error(x.pick.Next(), x.pick.Room())
	}
	x.takes(t, 4)
	if x.pick.Next() != 5 || x.pick.Room() != 3 {
		t.Error(x.pick.Next(), x.pick.Room())
	}
}

// P9.2, P9.4: all blocks are handed out one behind the other, each once, and no more than there are; those ahead of the first one never are.
func TestAllInTurn(t *testing.T) {
	for _, n := range sizes {
		for _, first := range firsts(n) {
			x := fresh(t, n, first)
			for want := first; want < n; want++ {
				b, e := x.pick.Take()
				if b != want || e != api.OK || x.tally.Get(b) != 1 {
					t.Fatalf("%d blocks, first %d: %d %v, not %d", n, first, b, e, want)
				}
				next := want + 1
				if next == n {
					next = first
				}
				if x.pick.Next() != next {
					t.Fatalf("%d blocks, first %d: Next %d, not %d", n, first, x.pick.Next(), next)
				}
			}
			for b := first; b < n; b++ {
				x.plain.now[b] = 1
			}
			x.tells(t)
			x.refuses(t)
		}
	}
}

// P9.2: behind the last block Next is the first one: be that 0, one behind it, or the last block itself.
func TestNextBehindTheLastBlock(t *testing.T) {
	for _, first := range []int{0, 1, 3, 4} {
		x := of(t, first, 0, 0, 0, 0, 0)
		for x.pick.Room() > 1 {
			x.take(t)
		}
		if x.pick.Next() != 4 {
			t.Error(first, x.pick.Next())
		}
		x.takes(t, 4)
		if x.pick.Next() != first {
			t.Error(first, x.pick.Next())
		}
		x.refuses(t)
		x.down(t, 4)
		x.takes(t, 4)
		if x.pick.Next() != first {
			t.Error(first, x.pick.Next())
		}
	}
}

// P9.2: a Next that is the last block: that one is handed out if it is free; else the first free one is.
func TestNextIsTheLastBlock(t *testing.T) {
	x := fresh(t, 5, 1)
	x.takes(t, 1, 2, 3)
	x.down(t, 2)
	x.takes(t, 4, 2)
	x = fresh(t, 5, 1)
	x.takes(t, 1, 2, 3)
	x.down(t, 3, 1)
	x.up(t, 4)
	if x.pick.Next() != 4 {
		t.Error(x.pick.Next())
	}
	x.takes(t, 1, 3)
	x.refuses(t)
}

// P9.2: behind Next no block is free, though one is from the first one on: wherever that one is, it alone is handed out.
func TestOneAheadOfNext(t *testing.T) {
	for free := 2; free < 8; free++ {
		for takes := 1; takes < 6; takes++ {
			x := fresh(t, 8, 2)
			for range takes {
				x.take(t)
			}
			for b := 2; b < 8; b++ {
				if x.tally.Get(b) == 0 {
					x.up(t, b)
				}
			}
			x.down(t, free)
			x.takes(t, free)
			x.refuses(t)
		}
	}
}

// P9.2: what is not free is passed over, and Next is the block behind the one that was handed out, be it free or not.
func TestGaps(t *testing.T) {
	x := of(t, 1, 0, 0, 9, 9, 0, 9, 0, 9)
	x.takes(t, 1)
	if x.pick.Next() != 2 {
		t.Error(x.pick.Next())
	}
	x.takes(t, 4)
	if x.pick.Next() != 5 {
		t.Error(x.pick.Next())
	}
	x.takes(t, 6)
	if x.pick.Next() != 7 {
		t.Error(x.pick.Next())
	}
	x.refuses(t)
	if x.pick.Next() != 7 {
		t.Error("a Take that was refused changed Next:", x.pick.Next())
	}
	x.down(t, 1, 4)
	x.takes(t, 1, 4)
}

// P9.2: blocks ahead of the first one are never handed out, though they are free, and nothing else is.
func TestAheadOfTheFirst(t *testing.T) {
	for first := 1; first <= 4; first++ {
		x := fresh(t, 4, first)
		for range 4 - first {
			x.take(t)
		}
		x.refuses(t)
		if x.tally.Frees() != first || x.pick.Room() != 0 {
			t.Error(first, x.tally.Frees(), x.pick.Room())
		}
		x.up(t, 0)
		x.down(t, 0)
		x.asks(t, 1, api.ErrSpace)
		x.refuses(t)
	}
}

// P9.2, R2: no block free at all: nothing is handed out, and nothing changes, till one is.
func TestNoBlockFree(t *testing.T) {
	for _, n := range []int{1, 2, 7, 4096} {
		x := of(t, 0, slices.Repeat([]int{1}, n)...)
		x.refuses(t)
		if len(x.tally.Changed()) != 0 {
			t.Error(x.tally.Changed())
		}
		x.asks(t, 1, api.ErrSpace)
		x.asks(t, 0, api.OK)
		x.down(t, n-1)
		x.refuses(t)
		x.keep(t)
		x.takes(t, n-1)
		x.refuses(t)
	}
}

// P9.2: blocks that wait are not handed out; behind a Keep they are, in their turn.
func TestWaiting(t *testing.T) {
	x := of(t, 1, 0, 1, 0, 65535, 1, 0)
	x.down(t, 1, 4)
	if x.tally.Waits() != 2 || x.pick.Room() != 2 {
		t.Error(x.tally.Waits(), x.pick.Room())
	}
	x.takes(t, 2, 5)
	x.refuses(t)
	x.keep(t)
	if x.pick.Room() != 2 {
		t.Error(x.pick.Room())
	}
	x.takes(t, 1, 4)
	x.refuses(t)
	x.keep(t)
	x.down(t, 2)
	x.refuses(t)
	x.back(t)
	x.refuses(t)
	x.down(t, 5)
	x.keep(t)
	x.takes(t, 5)
}

// P9.2: what was handed out, and let go again, is free at once, if no Keep was between; it comes in its turn, not next.
func TestLetGoAgain(t *testing.T) {
	x := fresh(t, 4, 0)
	x.takes(t, 0)
	x.down(t, 0)
	x.takes(t, 1, 2, 3, 0)
	x.down(t, 1, 2)
	x.takes(t, 1, 2)
	x.keep(t)
	x.down(t, 1, 2)
	x.refuses(t)
	x.keep(t)
	x.down(t, 3)
	x.takes(t, 1, 2)
	x.refuses(t)
}

// P9.2: a Back gives blocks back, but Next stays where it is.
func TestBack(t *testing.T) {
	x := fresh(t, 5, 1)
	x.takes(t, 1, 2)
	x.back(t)
	if x.pick.Next() != 3 || x.pick.Room() != 4 {
		t.Error(x.pick.Next(), x.pick.Room())
	}
	x.takes(t, 3, 4, 1, 2)
	x.refuses(t)
}

// P9.2: blocks that go up in the tally between two Takes are passed over, Next itself among them.
func TestUpBetweenTakes(t *testing.T) {
	x := fresh(t, 6, 0)
	x.takes(t, 0)
	x.up(t, 1, 2)
	x.takes(t, 3)
	x.up(t, 3, 3, 5)
	x.takes(t, 4)
	x.refuses(t)
	x.down(t, 1)
	x.takes(t, 1)
	x.down(t, 3, 3)
	x.refuses(t)
	x.down(t, 3)
	x.takes(t, 3)
}

// P9.3: asked for may be 0, and just as much as there is room, and no more; what was asked for is held against what is asked for then.
func TestAsk(t *testing.T) {
	for _, n := range sizes {
		for _, first := range firsts(n) {
			room := n - first
			for _, ask := range slices.Concat(below, []int{0, room, room + 1, room + 2, n + 1, 4097, 65536, 1 << 32, 1<<32 + room, math.MaxInt - 1, math.MaxInt}) {
				x := fresh(t, n, first)
				switch {
				case ask < 0:
					x.asks(t, ask, api.ErrArg)
				case ask > room:
					x.asks(t, ask, api.ErrSpace)
				default:
					x.asks(t, ask, api.OK)
					x.asks(t, room-ask+1, api.ErrSpace)
					x.asks(t, 0, api.OK)
					x.asks(t, room-ask, api.OK)
					x.asks(t, 1, api.ErrSpace)
				}
			}
		}
	}
}

// P9.3: what was asked for grows one by one up to the room, and not beyond it.
func TestAskOneByOne(t *testing.T) {
	x := of(t, 1, 0, 0, 1, 0, 0, 0)
	for range 4 {
		x.asks(t, 1, api.OK)
	}
	x.asks(t, 1, api.ErrSpace)
	x.asks(t, math.MaxInt, api.ErrSpace)
	x.asks(t, 0, api.OK)
	x.done(t, 3, api.OK)
	x.asks(t, 4, api.ErrSpace)
	x.asks(t, 3, api.OK)
	x.done(t, 4, api.OK)
	x.asks(t, 4, api.OK)
}

// P9.3: given back may be 0, and just as much as was asked for, and no more.
func TestDone(t *testing.T) {
	for _, asked := range []int{0, 1, 2, 7, 4095, 4096} {
		for _, n := range slices.Concat(below, []int{-asked, 0, 1, asked - 1, asked, asked + 1, asked + 2, 4097, 65536, 1 << 32, 1<<32 + asked, math.MaxInt}) {
			x := fresh(t, 4096, 0)
			x.asks(t, asked, api.OK)
			switch {
			case n < 0:
				x.done(t, n, api.ErrArg)
			case n > asked:
				x.done(t, n, api.ErrAsked)
			default:
				x.done(t, n, api.OK)
				x.done(t, asked-n+1, api.ErrAsked)
				x.done(t, 0, api.OK)
				x.done(t, asked-n, api.OK)
				x.done(t, 1, api.ErrAsked)
			}
			x.asks(t, 4096-x.pick.Asked(), api.OK)
		}
	}
}

// P9.3: a number below 0 is refused as such, whatever there is room for, and whatever was asked for.
func TestBelowNothing(t *testing.T) {
	full := of(t, 0, 1, 1)
	open := fresh(t, 9, 0)
	open.asks(t, 5, api.OK)
	gone := fresh(t, 1, 0)
	gone.asks(t, 1, api.OK)
	gone.takes(t, 0)
	for _, x := range []pair{full, open, gone} {
		for _, n := range below {
			x.asks(t, n, api.ErrArg)
			x.done(t, n, api.ErrArg)
		}
	}
}

// P9.2, P9.3: what was asked for is only a number: a Take hands out blocks though all of them were asked for, and it stays asked for.
func TestTakeOfWhatWasAskedFor(t *testing.T) {
	x := fresh(t, 5, 2)
	x.asks(t, 3, api.OK)
	x.takes(t, 2, 3, 4)
	if x.pick.Asked() != 3 {
		t.Error(x.pick.Asked())
	}
	x.refuses(t)
	x.done(t, 3, api.OK)
	x.refuses(t)
}

// P9.3: room that was asked for, and that is no more there, as blocks were taken: not even 0 is asked for then, and all may be given back.
func TestRoomThatIsNoMoreThere(t *testing.T) {
	x := fresh(t, 4, 0)
	x.asks(t, 3, api.OK)
	x.takes(t, 0)
	x.asks(t, 1, api.ErrSpace)
	x.asks(t, 0, api.OK)
	x.takes(t, 1)
	x.asks(t, 0, api.ErrSpace)
	x.asks(t, 1, api.ErrSpace)
	x.asks(t, math.MaxInt, api.ErrSpace)
	x.takes(t, 2, 3)
	x.asks(t, 0, api.ErrSpace)
	x.done(t, 4, api.ErrAsked)
	x.done(t, 0, api.OK)
	x.done(t, 2, api.OK)
	x.asks(t, 0, api.ErrSpace)
	x.down(t, 2)
	x.asks(t, 0, api.OK)
	x.asks(t, 1, api.ErrSpace)
	x.done(t, 1, api.OK)
	x.asks(t, 1, api.OK)
	x.up(t, 2)
	x.asks(t, 0, api.ErrSpace)
	x.done(t, 1, api.OK)
	x.asks(t, 0, api.OK)
}

// P9.3: room that is there again, as blocks were let go, kept or taken back, may be asked for again.
func TestRoomThatIsThereAgain(t *testing.T) {
	x := of(t, 1, 0, 5, 1, 0)
	x.asks(t, 2, api.ErrSpace)
	x.asks(t, 1, api.OK)
	x.down(t, 2)
	x.asks(t, 1, api.ErrSpace)
	x.keep(t)
	x.asks(t, 2, api.ErrSpace)
	x.asks(t, 1, api.OK)
	x.takes(t, 2, 3)
	x.asks(t, 0, api.ErrSpace)
	x.back(t)
	x.asks(t, 0, api.OK)
	x.asks(t, 1, api.ErrSpace)
	x.done(t, 2, api.OK)
	x.asks(t, 2, api.OK)
}

// P9.4: as many Takes as there is room hand out all free blocks, each once, whatever was done ahead.
func TestAsManyAsThereIsRoom(t *testing.T) {
	r := rand.New(rand.NewSource(9))
	for range 500 {
		counts := make([]int, 1+r.Intn(40))
		for b := range counts {
			counts[b] = r.Intn(2)
		}
		x := of(t, r.Intn(len(counts)+1), counts...)
		for range r.Intn(60) {
			b := r.Intn(len(counts))
			switch {
			case r.Intn(2) == 0:
				x.take(t)
			case x.tally.Get(b) > 0:
				x.down(t, b)
			case r.Intn(3) == 0:
				x.keep(t)
			}
		}
		var want, got []int
		for b := range counts {
			if b >= x.plain.first && x.tally.Free(b) {
				want = append(want, b)
			}
		}
		turn := x.pick.Next()
		for range x.pick.Room() {
			b, e := x.pick.Take()
			if e != api.OK || x.tally.Free(b) || x.tally.Get(b) != 1 {
				t.Fatal(b, e)
			}
			got = append(got, b)
		}
		at, _ := slices.BinarySearch(want, turn)
		if !slices.Equal(got, slices.Concat(want[at:], want[:at])) {
			t.Fatalf("from %d: %v, of %v", turn, got, want)
		}
		if b, e := x.pick.Take(); b != 0 || e != api.ErrSpace {
			t.Fatal(b, e)
		}
	}
}

// P9.1 to P9.4: what is done by chance comes to what the words say, step by step.
func TestAgainstTheWords(t *testing.T) {
	r := rand.New(rand.NewSource(10))
	met := map[string]int{}
	note := func(call string, e api.Errno) {
		switch e {
		case api.OK:
			met[call]++
		case api.ErrSpace:
			met[call+" ErrSpace"]++
		case api.ErrArg:
			met[call+" ErrArg"]++
		case api.ErrAsked:
			met[call+" ErrAsked"]++
		}
	}
	for range 400 {
		counts := make([]int, 1+r.Intn(10))
		for b := range counts {
			counts[b] = []int{0, 0, 0, 1, 2, 65534}[r.Intn(6)]
		}
		x := of(t, r.Intn(len(counts)+1), counts...)
		for range 100 {
			b, n := r.Intn(len(counts)), r.Intn(6)-1
			switch r.Intn(12) {
			case 0:
				x.keep(t)
			case 1:
				x.back(t)
			case 2, 3:
				if x.plain.now[b] < 65535 && r.Intn(2) == 0 {
					x.up(t, b)
				}
			case 4, 5, 6:
				if x.plain.now[b] > 0 {
					x.down(t, b)
				}
			case 7:
				want := x.plain.ask(n)
				if e := x.pick.Ask(n); e != want {
					t.Fatalf("Ask(%d): %v, not %v", n, e, want)
				}
				note("Ask", want)
			case 8:
				want := x.plain.done(n)
				if e := x.pick.Done(n); e != want {
					t.Fatalf("Done(%d): %v, not %v", n, e, want)
				}
				note("Done", want)
			default:
				_, e := x.take(t)
				note("Take", e)
			}
			x.tells(t)
		}
	}
	for _, call := range []string{"Take", "Take ErrSpace", "Ask", "Ask ErrArg", "Ask ErrSpace", "Done", "Done ErrArg", "Done ErrAsked"} {
		if met[call] < 100 {
			t.Error("too few of", call, met)
		}
	}
}

// P9.1 to P9.4, R5: of no pick, and of one that New did not answer, nothing is told or done, whatever is asked.
func TestNoPick(t *testing.T) {
	real := fresh(t, 5, 1)
	real.takes(t, 1)
	real.asks(t, 2, api.OK)
	byValue := *real.pick
	over := fresh(t, 7, 0).pick
	*over = *real.pick
	emptied := fresh(t, 3, 0).pick
	*emptied = pick.Pick{}
	refused, _ := pick.New(real.tally, 6)
	of, _ := pick.New(nil, 0)
	for i, p := range []*pick.Pick{nil, {}, new(pick.Pick), &byValue, over, emptied, refused, of} {
		for range 2 {
			if b, e := p.Take(); b != 0 || e != api.ErrNil {
				t.Errorf("pick %d: Take: %d %v", i, b, e)
			}
			for _, n := range slices.Concat(below, []int{0, 1, 2, 3, 4096, math.MaxInt}) {
				if e := p.Ask(n); e != api.ErrNil {
					t.Errorf("pick %d: Ask(%d): %v", i, n, e)
				}
				if e := p.Done(n); e != api.ErrNil {
					t.Errorf("pick %d: Done(%d): %v", i, n, e)
				}
			}
			if p.Room() != 0 || p.Next() != 0 || p.Asked() != 0 {
				t.Errorf("pick %d: %d %d %d", i, p.Room(), p.Next(), p.Asked())
			}
		}
	}
	real.tells(t)
	real.takes(t, 2, 3, 4)
}

// P9.2, P9.3, R1: a pick whose tally is none any more has no room; what is called ends, and what was asked for may be given back.
func TestTallyThatIsGone(t *testing.T) {
	for _, first := range []int{0, 2, 5} {
		x := fresh(t, 5, first)
		x.take(t)
		x.asks(t, x.pick.Room(), api.OK)
		next, asked := x.pick.Next(), x.pick.Asked()
		*x.tally = tally.Tally{}
		for range 2 {
			if b, e := x.pick.Take(); b != 0 || e != api.ErrSpace {
				t.Error(first, b, e)
			}
			if e := x.pick.Ask(1); e != api.ErrSpace {
				t.Error(first, e)
			}
			if x.pick.Room() != 0 || x.pick.Next() != next || x.pick.Asked() != asked {
				t.Error(first, x.pick.Room(), x.pick.Next(), x.pick.Asked())
			}
		}
		if e := x.pick.Done(asked); e != api.OK || x.pick.Asked() != 0 {
			t.Error(first, e, x.pick.Asked())
		}
	}
}

// P9.2, P9.3: two picks of one tally have its counts in common, but each its own first block, Next, and what was asked of it.
func TestTwoPicksOfATally(t *testing.T) {
	x := fresh(t, 6, 0)
	other, e := pick.New(x.tally, 3)
	if e != api.OK {
		t.Fatal(e)
	}
	y := pair{x.tally, other, &plain{now: x.plain.now, was: x.plain.was, first: 3, next: 3}}
	x.takes(t, 0)
	y.takes(t, 3)
	y.asks(t, 2, api.OK)
	x.asks(t, 4, api.OK)
	x.takes(t, 1, 2, 4)
	if x.pick.Next() != 5 || y.pick.Next() != 4 || x.pick.Asked() != 4 || y.pick.Asked() != 2 {
		t.Error(x.pick.Next(), y.pick.Next(), x.pick.Asked(), y.pick.Asked())
	}
	y.takes(t, 5)
	y.refuses(t)
	x.refuses(t)
	x.down(t, 1)
	y.refuses(t)
	x.takes(t, 1)
	y.done(t, 2, api.OK)
	y.asks(t, 0, api.OK)
	x.asks(t, 0, api.ErrSpace)
}

// R4: picks of two tallies are apart, also if all that is done to them is the same.
func TestPicksAreApart(t *testing.T) {
	x, y, z := fresh(t, 4, 1), fresh(t, 4, 1), fresh(t, 9, 4)
	x.takes(t, 1, 2)
	x.asks(t, 1, api.OK)
	y.tells(t)
	z.tells(t)
	y.takes(t, 1, 2, 3)
	z.asks(t, 5, api.OK)
	x.tells(t)
	x.takes(t, 3)
	z.takes(t, 4)
}
