package place_test

import (
	"math"
	"math/rand"
	"slices"
	"testing"

	"catchment/api"
	"catchment/pick"
	"catchment/place"
	"catchment/tally"
)

// sizes are how many blocks a tally may have: the edges of pages, of directory pages, and ordinary ones.
var sizes = []int{1, 2, 3, 16, 60, 61, 62, 122, 123, 200, 3720, 3721, 3722, 4095, 4096}

// roomy are those of the sizes whose pages all find room from block 2 on.
var roomy = []int{4, 16, 60, 61, 62, 122, 123, 200, 3720, 3721, 3722, 4095, 4096}

// no are numbers that are no count page, and no block.
var no = []int{-1, -2, -61, -62, -4096, math.MinInt32, math.MinInt + 1, math.MinInt, 68, 4096, 4097, 65536, 1 << 32, 1<<32 + 1, 1 << 40, math.MaxInt - 1, math.MaxInt}

// pagesOf counts one by one on how many pages so many numbers stand.
func pagesOf(n int) int {
	pages := 0
	for left := n; left > 0; left -= 61 {
		pages++
	}
	return pages
}

// plain is what the words say of a tally, of a pick of it, and of the sheet of its pages.
type plain struct {
	now, was    []int
	first, next int
	pages, dirs []int
}

// take is what a pick takes.
func (p *plain) take() int {
	many := len(p.now) - p.first
	for i := range many {
		b := p.first + (p.next-p.first+i)%many
		if p.now[b] == 0 && p.was[b] == 0 {
			p.now[b]++
			p.next = p.first + (b+1-p.first)%many
			return b
		}
	}
	panic("no room")
}

func (p *plain) room() int {
	n := 0
	for b := p.first; b < len(p.now); b++ {
		if p.now[b] == 0 && p.was[b] == 0 {
			n++
		}
	}
	return n
}

// put places a page.
func (p *plain) put(at *int) {
	if *at != 0 {
		p.now[*at]--
	}
	*at = p.take()
}

// place reads the words of Place one by one: the first count page that has to be placed, or else the first directory page, till there is none.
func (p *plain) place() ([]int, []int) {
	pages, dirs := make([]bool, len(p.pages)), make([]bool, len(p.dirs))
	for {
		if c := slices.IndexFunc(seq(len(pages)), func(c int) bool { return !pages[c] && (p.pages[c] == 0 || p.changed(c)) }); c >= 0 {
			p.put(&p.pages[c])
			pages[c] = true
			continue
		}
		d := slices.IndexFunc(seq(len(dirs)), func(d int) bool {
			return !dirs[d] && (p.dirs[d] == 0 || slices.Contains(pages[61*d:min(61*d+61, len(pages))], true))
		})
		if d < 0 {
			return which(pages), which(dirs)
		}
		p.put(&p.dirs[d])
		dirs[d] = true
	}
}

// changed tells whether a count page has a block that has changed.
func (p *plain) changed(c int) bool {
	for b := 61 * c; b < 61*c+61 && b < len(p.now); b++ {
		if p.now[b] != p.was[b] {
			return true
		}
	}
	return false
}

// right reads the words of a right sheet.
func (p *plain) right(s api.Sheet) bool {
	if len(s.Pages) != pagesOf(len(p.now)) || len(s.Dirs) != pagesOf(len(s.Pages)) {
		return false
	}
	all := slices.Concat(s.Pages, s.Dirs)
	for i, b := range all {
		if b == 0 {
			continue
		}
		if b < 0 || b >= len(p.now) || p.now[b] == 0 || slices.Contains(all[:i], b) {
			return false
		}
	}
	return true
}

// seq is the numbers from 0 on.
func seq(n int) []int {
	l := make([]int, n)
	for i := range l {
		l[i] = i
	}
	return l
}

// which are the places that are marked.
func which(l []bool) []int {
	return slices.DeleteFunc(seq(len(l)), func(i int) bool { return !l[i] })
}

// set is a tally, a pick of it, the sheet of its pages, and what the words say of all of them.
type set struct {
	tally *tally.Tally
	pick  *pick.Pick
	sheet api.Sheet
	plain *plain
}

// of makes a set of these counts, kept ones, from a first block on, with pages that stand at these blocks.
func of(t testing.TB, first int, counts []int, pages, dirs []int) *set {
	t.Helper()
	v, no := tally.Of(short(counts))
	p, none := pick.New(v, first)
	if no != api.OK || none != api.OK {
		t.Fatalf("a pick from %d on of %d blocks: %v, %v", first, len(counts), no, none)
	}
	s := api.Sheet{Pages: slices.Clone(pages), Dirs: slices.Clone(dirs)}
	return &set{v, p, s, &plain{slices.Clone(counts), slices.Clone(counts), first, first, slices.Clone(pages), slices.Clone(dirs)}}
}

// short are counts as a tally is handed them.
func short(counts []int) []uint16 {
	var l []uint16
	for _, n := range counts {
		l = append(l, uint16(n))
	}
	return l
}

// nowhere makes a set of these counts whose pages stand nowhere.
func nowhere(t testing.TB, first int, counts []int) *set {
	t.Helper()
	pages := pagesOf(len(counts))
	return of(t, first, counts, make([]int, pages), make([]int, pagesOf(pages)))
}

// placed makes a set of so many blocks, nothing but its pages in them, all placed and kept.
func placed(t testing.TB, blocks int) *set {
	t.Helper()
	x := nowhere(t, 2, make([]int, blocks))
	x.place(t)
	x.keep(t)
	return x
}

// tells holds all that the tally and the pick tell against the words.
func (x *set) tells(t testing.TB) {
	t.Helper()
	if x.pick.Next() != x.plain.next || x.pick.Room() != x.plain.room() {
		t.Fatalf("Next %d, Room %d, not %d, %d", x.pick.Next(), x.pick.Room(), x.plain.next, x.plain.room())
	}
	var changed []int
	for b, n := range x.plain.now {
		if x.tally.Get(b) != n || x.tally.Free(b) != (n == 0 && x.plain.was[b] == 0) {
			t.Fatalf("block %d: count %d, free %v; its count should be %d, its kept one %d", b, x.tally.Get(b), x.tally.Free(b), n, x.plain.was[b])
		}
		if n != x.plain.was[b] {
			changed = append(changed, b)
		}
	}
	if !slices.Equal(x.tally.Changed(), changed) {
		t.Fatalf("changed are %v, not %v", x.tally.Changed(), changed)
	}
}

// place places, and holds what is answered, and what is told behind it, against the words.
func (x *set) place(t testing.TB) (pages, dirs []int) {
	t.Helper()
	before := x.copies()
	s, pages, dirs, e := place.Place(x.tally, x.pick, x.sheet)
	if e != api.OK {
		t.Fatalf("Place of %v: %v", x.sheet, e)
	}
	if !same(x.sheet, before) {
		t.Fatalf("Place changed the sheet that was handed in: %v, %v", before, x.sheet)
	}
	wantPages, wantDirs := x.plain.place()
	if !slices.Equal(pages, wantPages) || !slices.Equal(dirs, wantDirs) {
		t.Fatalf("placed were %v, %v, not %v, %v", pages, dirs, wantPages, wantDirs)
	}
	if !same(s, api.Sheet{Pages: x.plain.pages, Dirs: x.plain.dirs}) {
		t.Fatalf("the pages stand at %v, not at %v, %v", s, x.plain.pages, x.plain.dirs)
	}
	x.sheet = s
	x.tells(t)
	return pages, dirs
}

// places places; just these pages have to be placed.
func (x *set) places(t testing.TB, pages, dirs []int) {
	t.Helper()
	if p, d := x.place(t); !slices.Equal(p, pages) || !slices.Equal(d, dirs) {
		t.Fatalf("placed were %v, %v, not %v, %v", p, d, pages, dirs)
	}
}

// stands holds where the pages stand.
func (x *set) stands(t testing.TB, pages, dirs []int) {
	t.Helper()
	if !same(x.sheet, api.Sheet{Pages: pages, Dirs: dirs}) {
		t.Fatalf("the pages stand at %v, not at %v, %v", x.sheet, pages, dirs)
	}
}

// refuses places a sheet, which has to be refused; nothing may change.
func (x *set) refuses(t testing.TB, s api.Sheet, want api.Errno) {
	t.Helper()
	before := api.Sheet{Pages: slices.Clone(s.Pages), Dirs: slices.Clone(s.Dirs)}
	for range 2 {
		out, pages, dirs, e := place.Place(x.tally, x.pick, s)
		if e != want || out.Pages != nil || out.Dirs != nil || len(pages) != 0 || len(dirs) != 0 {
			t.Fatalf("Place of %v: %v %v %v %v, not %v", s, out, pages, dirs, e, want)
		}
	}
	if !same(s, before) {
		t.Fatalf("Place changed the sheet that it refused: %v, %v", before, s)
	}
	x.tells(t)
}

// right holds whether a sheet is right against the words; asking changes nothing.
func (x *set) right(t testing.TB, s api.Sheet, want bool) {
	t.Helper()
	before := api.Sheet{Pages: slices.Clone(s.Pages), Dirs: slices.Clone(s.Dirs)}
	if x.plain.right(s) != want {
		t.Fatalf("the words don't say %v of %v", want, s)
	}
	if place.Right(x.tally, s) != want {
		t.Fatalf("Right of %v: not %v", s, want)
	}
	if !same(s, before) {
		t.Fatalf("Right changed the sheet: %v, %v", before, s)
	}
	x.tells(t)
}

func (x *set) copies() api.Sheet {
	return api.Sheet{Pages: slices.Clone(x.sheet.Pages), Dirs: slices.Clone(x.sheet.Dirs)}
}

// with is the sheet with other blocks: what stands at one of these places of all pages, count pages ahead.
func (x *set) with(at, block int) api.Sheet {
	s := x.copies()
	if at < len(s.Pages) {
		s.Pages[at] = block
	} else {
		s.Dirs[at-len(s.Pages)] = block
	}
	return s
}

func same(a, b api.Sheet) bool {
	return slices.Equal(a.Pages, b.Pages) && slices.Equal(a.Dirs, b.Dirs)
}

func (x *set) up(t testing.TB, blocks ...int) {
	t.Helper()
	for _, b := range blocks {
		if e := x.tally.Up(b); e != api.OK {
			t.Fatalf("Up(%d): %v", b, e)
		}
		x.plain.now[b]++
	}
}

func (x *set) down(t testing.TB, blocks ...int) {
	t.Helper()
	for _, b := range blocks {
		if e := x.tally.Down(b); e != api.OK {
			t.Fatalf("Down(%d): %v", b, e)
		}
		x.plain.now[b]--
	}
}

func (x *set) keep(t testing.TB) {
	t.Helper()
	x.tally.Keep()
	copy(x.plain.was, x.plain.now)
	x.tells(t)
}

func (x *set) back(t testing.TB) {
	t.Helper()
	x.tally.Back()
	copy(x.plain.now, x.plain.was)
	x.tells(t)
}

// stand hands the set a sheet, for what follows.
func (x *set) stand(s api.Sheet) {
	x.sheet = s
	x.plain.pages, x.plain.dirs = slices.Clone(s.Pages), slices.Clone(s.Dirs)
}

// follows holds what P10.3 says, without the words of Place: changed pages were placed, directory pages of placed ones, too; all stand at blocks of their own.
func (x *set) follows(t testing.TB, counts []int, pages, dirs []int) {
	t.Helper()
	for _, b := range x.tally.Changed() {
		if !slices.Contains(pages, b/61) {
			t.Fatalf("block %d has changed, and its page was not placed: %v", b, pages)
		}
	}
	for _, c := range pages {
		if !slices.Contains(dirs, c/61) {
			t.Fatalf("count page %d was placed, and what tells of it was not: %v", c, dirs)
		}
	}
	at := slices.Sorted(slices.Values(slices.Concat(x.sheet.Pages, x.sheet.Dirs)))
	if len(slices.Compact(slices.Clone(at))) != len(at) || at[0] == 0 {
		t.Fatalf("pages stand at %v", at)
	}
	for b, n := range counts {
		if slices.Contains(at, b) {
			n++
		}
		if x.tally.Get(b) != n {
			t.Fatalf("block %d: %d, not %d", b, x.tally.Get(b), n)
		}
	}
}

// P10.1, P10.2: the examples.
func TestExamples(t *testing.T) {
	if n := place.Need(16); n != 2 {
		t.Error(n)
	}
	x := nowhere(t, 2, make([]int, 16))
	x.places(t, []int{0}, []int{0})
	x.stands(t, []int{2}, []int{3})
	if l := place.Counts(x.tally, 0); !slices.Equal(l, []uint16{0, 0, 1, 1, 0, 0, 0, 0, 0, 0, 0, 0, 0, 0, 0, 0}) {
		t.Error(l)
	}
	x.keep(t)
	x.places(t, nil, nil)
	x.stands(t, []int{2}, []int{3})
	x.up(t, 9)
	x.places(t, []int{0}, []int{0})
	x.stands(t, []int{4}, []int{5})
	if x.tally.Get(2) != 0 || x.tally.Get(3) != 0 {
		t.Error(x.tally.Get(2), x.tally.Get(3))
	}
}

// P10.1: Need of each number of blocks that there may be; of none, and of less than none.
func TestNeed(t *testing.T) {
	for _, c := range []struct{ blocks, need int }{
		{0, 0}, {1, 2}, {2, 2}, {60, 2}, {61, 2}, {62, 3}, {122, 3}, {123, 4}, {3660, 61}, {3661, 62}, {3721, 62}, {3722, 64}, {4095, 70}, {4096, 70},
		{-1, 0}, {-2, 0}, {-61, 0}, {-62, 0}, {-4096, 0}, {math.MinInt32, 0}, {math.MinInt + 1, 0}, {math.MinInt, 0},
	} {
		if n := place.Need(c.blocks); n != c.need {
			t.Errorf("Need(%d): %d, not %d", c.blocks, n, c.need)
		}
	}
	for n := range 9000 {
		if want := pagesOf(n) + pagesOf(pagesOf(n)); place.Need(n) != want {
			t.Fatalf("Need(%d): %d, not %d", n, place.Need(n), want)
		}
	}
}

// P10.1, R1: Need of more blocks than any disk has is so many pages, too: 61 numbers stand on each.
func TestNeedOfManyBlocks(t *testing.T) {
	for _, n := range []int{1 << 20, math.MaxInt32, 1 << 40, math.MaxInt - 1, math.MaxInt} {
		pages := n/61 + 1 // none of these is a multiple of 61
		if n%61 == 0 {
			t.Fatal(n)
		}
		if want := pages + (pages+60)/61; place.Need(n) != want {
			t.Errorf("Need(%d): %d, not %d", n, place.Need(n), want)
		}
	}
}

// counted are counts that tell a block by its number, the greatest count among them.
func counted(n int) []int {
	l := make([]int, n)
	for b := range l {
		l[b] = (b*977 + 65535) % 65536
	}
	return l
}

// P10.1: the counts of each page, of the last one, too, which may have fewer.
func TestCounts(t *testing.T) {
	for _, n := range sizes {
		want := counted(n)
		x := nowhere(t, 0, want)
		var all []int
		for page := range pagesOf(n) {
			l := place.Counts(x.tally, page)
			if len(l) != 61 && (page != pagesOf(n)-1 || len(l) != n-61*page) {
				t.Fatalf("%d blocks: page %d has %d counts", n, page, len(l))
			}
			for _, c := range l {
				all = append(all, int(c))
			}
		}
		if !slices.Equal(all, want) {
			t.Errorf("%d blocks: %v, not %v", n, all, want)
		}
		x.tells(t)
	}
}

// P10.1, R7: a page below 0, and one behind the last one, has no counts.
func TestCountsOfNoPage(t *testing.T) {
	for _, n := range sizes {
		x := nowhere(t, 0, counted(n))
		for _, page := range slices.Concat(no, []int{pagesOf(n), pagesOf(n) + 1, 2 * pagesOf(n), n + 1}) {
			if page >= 0 && page < pagesOf(n) {
				continue
			}
			if l := place.Counts(x.tally, page); len(l) != 0 {
				t.Errorf("%d blocks: page %d: %v", n, page, l)
			}
		}
	}
}

// P10.1: counts are those that are now, not those that were kept.
func TestCountsOfWhatHasChanged(t *testing.T) {
	x := nowhere(t, 0, []int{1, 2, 3, 65535})
	x.up(t, 0, 0)
	x.down(t, 1, 1, 3)
	if l := place.Counts(x.tally, 0); !slices.Equal(l, []uint16{3, 0, 3, 65534}) {
		t.Error(l)
	}
	x.back(t)
	if l := place.Counts(x.tally, 0); !slices.Equal(l, []uint16{1, 2, 3, 65535}) {
		t.Error(l)
	}
}

// P10.1, R3: counts are handed out in memory of their own: what is written there changes no tally, and no other answer.
func TestCountsAreNew(t *testing.T) {
	x := nowhere(t, 0, counted(100))
	a, b := place.Counts(x.tally, 0), place.Counts(x.tally, 0)
	want := slices.Clone(b)
	for i := range a {
		a[i] = 7
	}
	_ = append(a, 7, 7, 7)
	x.tells(t)
	if !slices.Equal(b, want) || !slices.Equal(place.Counts(x.tally, 0), want) {
		t.Error(b, place.Counts(x.tally, 0))
	}
}

// none are tallies that are none.
func none(t testing.TB) []*tally.Tally {
	t.Helper()
	real := nowhere(t, 2, make([]int, 16)).tally
	byValue := *real
	over := nowhere(t, 2, make([]int, 16)).tally
	*over = *real
	emptied := nowhere(t, 2, make([]int, 16)).tally
	*emptied = tally.Tally{}
	refused, _ := tally.New(0)
	long, _ := tally.Of(make([]uint16, 4097))
	return []*tally.Tally{nil, {}, new(tally.Tally), &byValue, over, emptied, refused, long}
}

// P10.1, R5: no tally has no counts, and no sheet is right, not even one without pages.
func TestNoTally(t *testing.T) {
	for i, v := range none(t) {
		for _, page := range append(no, 0, 1, 2) {
			if l := place.Counts(v, page); len(l) != 0 {
				t.Errorf("tally %d, page %d: %v", i, page, l)
			}
		}
		for _, s := range []api.Sheet{{}, {Pages: []int{}, Dirs: []int{}}, {Pages: []int{0}, Dirs: []int{0}}, {Pages: []int{2}, Dirs: []int{3}}, {Pages: []int{0}}, {Dirs: []int{0}}} {
			if place.Right(v, s) {
				t.Errorf("tally %d: %v is right", i, s)
			}
		}
	}
}

// P10.1: sheets whose pages stand nowhere, whose pages all stand somewhere, and of which some do, are right.
func TestRight(t *testing.T) {
	for _, n := range roomy {
		x := nowhere(t, 2, make([]int, n))
		x.right(t, x.sheet, true)
		x.place(t)
		x.right(t, x.sheet, true)
		x.keep(t)
		x.right(t, x.sheet, true)
		for at := range place.Need(n) {
			x.right(t, x.with(at, 0), true)
		}
		s := x.copies()
		for i := range s.Pages {
			s.Pages[i] *= i % 2
		}
		x.right(t, s, true)
		x.right(t, api.Sheet{Pages: make([]int, len(s.Pages)), Dirs: s.Dirs}, true)
		x.right(t, api.Sheet{Pages: s.Pages, Dirs: make([]int, len(s.Dirs))}, true)
	}
}

// P10.1: a page may stand at any block that has a count: the first one but 0, the last one, one that is referred to as often as may be, or since now.
func TestRightAtAnyBlock(t *testing.T) {
	x := of(t, 2, []int{0, 1, 2, 65535, 0, 0, 0, 3}, []int{1}, []int{7})
	x.right(t, x.sheet, true)
	for at := range 2 {
		for b, ok := range []bool{true, true, true, true, false, false, false, true} {
			other := x.with(1-at, 0) // nothing else stands where this page does
			if at == 0 {
				other.Pages[0] = b
			} else {
				other.Dirs[0] = b
			}
			x.right(t, other, ok)
		}
	}
	x.up(t, 5)
	x.right(t, x.with(0, 5), true)
	x.right(t, x.with(1, 5), true)
}

// P10.1: block 0 is no block of a sheet, whatever its count: it may be there for each page.
func TestRightOfBlock0(t *testing.T) {
	for _, n := range []int{0, 1, 65535} {
		x := of(t, 2, []int{n, 0, 1, 0, 0}, []int{0}, []int{0})
		x.right(t, x.sheet, true)
	}
}

// P10.1, P10.2, R2: a sheet that has a page too few, or too many, of either kind, is not right, nor placed.
func TestPagesTooFewOrMany(t *testing.T) {
	for _, n := range roomy {
		x := placed(t, n)
		x.up(t, 1)
		pages, dirs := len(x.sheet.Pages), len(x.sheet.Dirs)
		for _, p := range []int{0, 1, pages - 1, pages, pages + 1, pages + dirs, 2 * pages, n, 5000} {
			for _, d := range []int{0, 1, dirs - 1, dirs, dirs + 1, pages, n, 5000} {
				if p == pages && d == dirs {
					continue
				}
				for _, s := range []api.Sheet{{Pages: make([]int, p), Dirs: make([]int, d)}, {Pages: longer(x.sheet.Pages, p), Dirs: longer(x.sheet.Dirs, d)}} {
					x.right(t, s, false)
					x.refuses(t, s, api.ErrSheet)
				}
			}
		}
	}
}

// longer is a list that is cut, or has noughts behind it.
func longer(l []int, n int) []int {
	out := make([]int, n)
	copy(out, l)
	return out
}

// P10.1, P10.2, R2, R6: no pages at all, as no list and as an empty one, are the pages of no tally.
func TestNoPages(t *testing.T) {
	x := nowhere(t, 2, make([]int, 16))
	for _, p := range [][]int{nil, {}} {
		for _, d := range [][]int{nil, {}} {
			x.right(t, api.Sheet{Pages: p, Dirs: d}, false)
			x.refuses(t, api.Sheet{Pages: p, Dirs: d}, api.ErrSheet)
		}
	}
	x.refuses(t, api.Sheet{Pages: []int{0}}, api.ErrSheet)
	x.refuses(t, api.Sheet{Dirs: []int{0}}, api.ErrSheet)
}

// P10.1, P10.2, R2: a block twice in a sheet, in one kind of pages or in both, makes it not right, however often the block is referred to.
func TestBlockTwice(t *testing.T) {
	x := placed(t, 4096)
	x.up(t, slices.Concat(x.sheet.Pages, x.sheet.Dirs)...)
	pages, dirs := len(x.sheet.Pages), len(x.sheet.Dirs)
	if pages != 68 || dirs != 2 {
		t.Fatal(pages, dirs)
	}
	all := slices.Concat(x.sheet.Pages, x.sheet.Dirs)
	for _, c := range [][2]int{{0, 1}, {0, 67}, {30, 31}, {66, 67}, {61, 2}, {0, 68}, {0, 69}, {67, 68}, {67, 69}, {40, 68}, {68, 69}} {
		for _, c := range [][2]int{c, {c[1], c[0]}} {
			s := x.with(c[0], all[c[1]])
			x.right(t, s, false)
			x.refuses(t, s, api.ErrSheet)
		}
	}
}

// P10.1, P10.2, R2: a block that the tally does not have, and one without a count, makes a sheet not right, be it of either kind of pages, the first one or the last.
func TestNoSuchBlock(t *testing.T) {
	for _, n := range []int{16, 62, 4096} {
		x := placed(t, n)
		x.up(t, n-1)
		x.down(t, n-1)
		need := place.Need(n)
		for _, at := range slices.Compact([]int{0, 1, need / 2, need - 2, need - 1}) {
			for _, b := range slices.Concat(no, []int{n, n + 1, 1, need + 2, n - 1, -n, 65536 + 2, 1<<32 + 2}) {
				if b >= 0 && b < n && x.plain.now[b] != 0 {
					continue
				}
				x.right(t, x.with(at, b), false)
				x.refuses(t, x.with(at, b), api.ErrSheet)
			}
		}
	}
}

// P10.1, P10.2: a block that waits has no count, so no page stands there, though it had one at the last Keep.
func TestBlockThatWaits(t *testing.T) {
	x := placed(t, 16)
	x.down(t, 3)
	x.right(t, x.sheet, false)
	x.refuses(t, x.sheet, api.ErrSheet)
	x.up(t, 3)
	x.right(t, x.sheet, true)
	x.down(t, 2)
	x.right(t, x.sheet, false)
	x.refuses(t, x.sheet, api.ErrSheet)
	x.keep(t)
	x.refuses(t, x.sheet, api.ErrSheet)
}

// P10.2: all pages are placed from the first block on, in order, where they stand nowhere: count pages, then directory pages.
func TestPlaceAll(t *testing.T) {
	for _, n := range roomy {
		x := nowhere(t, 2, make([]int, n))
		pages, dirs := pagesOf(n), pagesOf(pagesOf(n))
		x.places(t, seq(pages), seq(dirs))
		all := slices.Concat(x.sheet.Pages, x.sheet.Dirs)
		for i, b := range all {
			if b != i+2 {
				t.Fatalf("%d blocks: %v", n, x.sheet)
			}
		}
		x.follows(t, make([]int, n), seq(pages), seq(dirs))
		if x.tally.Waits() != 0 {
			t.Error(n, x.tally.Waits())
		}
	}
}

// P10.2: pages that stand nowhere are placed, though nothing has changed; those that stand somewhere are, by that.
func TestNowhereThoughNothingHasChanged(t *testing.T) {
	counts := make([]int, 3722)
	counts[5], counts[6], counts[7], counts[900] = 1, 1, 1, 4
	x := nowhere(t, 2, counts)
	x.sheet.Pages[0] = 5 // what changes on it comes of the others alone
	x.stand(x.sheet)
	if len(x.tally.Changed()) != 0 {
		t.Fatal(x.tally.Changed())
	}
	x.places(t, seq(62), seq(2))
}

// P10.2: a directory page that stands nowhere is placed alone of its kind, and what has its block's count behind it, and what tells of that.
func TestDirNowhere(t *testing.T) {
	for d := range 2 {
		x := placed(t, 4096)
		s := x.copies()
		at := s.Dirs[d]
		s.Dirs[d] = 0
		x.down(t, at)
		x.keep(t)
		x.stand(s)
		pages, dirs := x.place(t)
		if !slices.Equal(pages, []int{0, 1}) || !slices.Equal(dirs, [][]int{{0}, {0, 1}}[d]) {
			t.Error(d, pages, dirs)
		}
	}
}

// P10.2: a count page that stands nowhere is placed, wherever it is in the row, at the next free block.
func TestPageNowhere(t *testing.T) {
	for _, c := range []int{0, 1, 2, 60, 61, 66, 67} {
		x := placed(t, 4096)
		s := x.copies()
		x.down(t, s.Pages[c])
		s.Pages[c] = 0
		x.keep(t)
		x.stand(s)
		next := x.pick.Next()
		pages, dirs := x.place(t)
		if x.sheet.Pages[c] != next || !slices.Contains(pages, c) || !slices.Contains(dirs, c/61) {
			t.Error(c, x.sheet, pages, dirs)
		}
	}
}

// P10.2: no changed block at all: nothing is placed, however often it is asked.
func TestNothingHasChanged(t *testing.T) {
	for _, n := range roomy {
		x := placed(t, n)
		if x.pick.Room() < place.Need(n) {
			continue
		}
		s := x.copies()
		for range 3 {
			x.places(t, nil, nil)
			x.stands(t, s.Pages, s.Dirs)
		}
		x.up(t, n-1)
		x.down(t, n-1)
		x.places(t, nil, nil)
		x.up(t, n-1)
		x.back(t)
		x.places(t, nil, nil)
		x.stands(t, s.Pages, s.Dirs)
	}
}

// P10.2: a changed block lets its page be placed: the first one of a page, the last one, and those beside them on other pages. Blocks 0 and 1, which no pick hands out here, have pages, too.
func TestChangedOnOnePage(t *testing.T) {
	for _, n := range []int{200, 4096} {
		for _, b := range []int{0, 1, 60, 61, 62, 121, 122, 182, 183, n / 2, n - 2, n - 1} {
			x := placed(t, n)
			x.up(t, b)
			pages, dirs := x.place(t)
			if !slices.Contains(pages, b/61) || !slices.Contains(dirs, b/61/61) {
				t.Errorf("%d blocks, %d has changed: %v, %v", n, b, pages, dirs)
			}
			if len(pages) > 4 { // its own one, and those of blocks 2 to 80, where pages stand
				t.Errorf("%d blocks, %d has changed: %v", n, b, pages)
			}
		}
	}
}

// P10.2: changed blocks on several pages: a count that went down has changed as one that went up, and one that is as it was kept has not.
func TestChangedOnSeveralPages(t *testing.T) {
	x := placed(t, 4096)
	x.up(t, 500, 1000, 2000, 3000, 3001, 4095)
	x.keep(t)
	x.down(t, 1000, 3001, 500)
	x.up(t, 2000, 500)
	pages, dirs := x.place(t)
	if !slices.Equal(pages, []int{0, 1, 1000 / 61, 2000 / 61, 3001 / 61}) || !slices.Equal(dirs, []int{0}) {
		t.Error(pages, dirs)
	}
}

// P10.2: changed blocks on all pages.
func TestChangedOnAllPages(t *testing.T) {
	x := placed(t, 4096)
	for b := 0; b < 4096; b += 61 {
		x.up(t, b)
	}
	x.places(t, seq(68), seq(2))
}

// P10.2: a changed block of the last page alone, which has fewer blocks; the pages of both directory pages' blocks change by it.
func TestChangedOnTheLastPage(t *testing.T) {
	x := placed(t, 4096)
	x.up(t, 4094)
	// the last page from 69 to 72, so page 1 from 3 to 73, so page 0 from 2 to 74; both directory pages to 75, 76
	x.places(t, []int{0, 1, 67}, []int{0, 1})
	want := slices.Concat([]int{74, 73}, seq(69)[4:], []int{72})
	x.stands(t, want, []int{75, 76})
}

// P10.2: what is placed is the first page that has to be at that moment: count pages ahead of directory pages, each kind in order, and the first one anew behind each.
func TestOrder(t *testing.T) {
	counts := make([]int, 200)
	counts[2], counts[130], counts[131], counts[132], counts[133] = 1, 1, 1, 1, 1
	x := of(t, 70, counts, []int{130, 131, 132, 133}, []int{2})
	x.up(t, 190)
	// page 3 goes from 133 to 70, so pages 1 and 2 change: they go to 71 and 72; then the directory page from 2 to 73, so page 0 changes, and goes to 74
	x.places(t, []int{0, 1, 2, 3}, []int{0})
	x.stands(t, []int{74, 71, 72, 70}, []int{73})
	if l := place.Counts(x.tally, 2); slices.Max(l) != 0 {
		t.Error(l)
	}
}

// P10.2: a page ahead that changes by a placing is placed ahead of pages that were to be placed before.
func TestPageAheadGoesFirst(t *testing.T) {
	counts := make([]int, 200)
	counts[61], counts[62], counts[63], counts[5], counts[64] = 1, 1, 1, 1, 1
	x := of(t, 100, counts, []int{61, 62, 5, 63}, []int{64})
	x.up(t, 130, 190)
	// page 2 goes from 5 to 100, so page 0 goes next, to 101, then page 1, to 102, and only then page 3
	x.places(t, []int{0, 1, 2, 3}, []int{0})
	x.stands(t, []int{101, 102, 100, 103}, []int{104})
}

// P10.2: a page whose placing changes a block of a page that was placed already does not let that one be placed twice.
func TestNotTwice(t *testing.T) {
	x := placed(t, 200)
	x.stands(t, []int{2, 3, 4, 5}, []int{6})
	x.up(t, 10, 150)
	// page 0 goes to 7; page 2, which goes to 8, and the directory page, which goes to 9, change counts of it again
	x.places(t, []int{0, 2}, []int{0})
	x.stands(t, []int{7, 3, 8, 5}, []int{9})
}

// P10.2: a page whose placing changes a block of one that is to be placed.
func TestChangesWhatIsToBePlaced(t *testing.T) {
	x := placed(t, 200)
	x.up(t, 70, 150)
	// page 1 goes to 7, so page 0 has changed, too, and goes to 8, ahead of page 2, which goes to 9
	x.places(t, []int{0, 1, 2}, []int{0})
	x.stands(t, []int{8, 7, 9, 5}, []int{10})
}

// P10.2: a page whose placing changes a block of its own is placed once: where all counts stand on one page each placing does.
func TestChangesItsOwn(t *testing.T) {
	for _, n := range []int{16, 60, 61} {
		x := placed(t, n)
		x.up(t, 9)
		x.places(t, []int{0}, []int{0})
		x.stands(t, []int{4}, []int{5})
		if x.tally.Get(2)+x.tally.Get(3) != 0 || x.tally.Waits() != 2 || x.tally.Get(4) != 1 || x.tally.Get(5) != 1 {
			t.Error(n, x.tally.Waits(), place.Counts(x.tally, 0))
		}
	}
}

// P10.2: a page goes to its own old block, if that is free by its going down, and is the next one.
func TestOwnBlockAgain(t *testing.T) {
	x := nowhere(t, 12, make([]int, 16))
	x.place(t)
	x.stands(t, []int{12}, []int{13})
	for range 2 {
		x.pick.Take()
		x.plain.take()
	}
	x.down(t, 14, 15)
	x.places(t, []int{0}, []int{0})
	x.stands(t, []int{12}, []int{13})
}

// P10.2: what comes back to its kept count by a placing has changed no more: its page, which had to be placed at first, is not.
func TestChangedNoMore(t *testing.T) {
	counts := make([]int, 100)
	counts[3], counts[5] = 1, 1
	x := of(t, 2, counts, []int{70, 5}, []int{3})
	x.up(t, 70, 9)
	// page 0 goes from 70 to 2, and 70, which alone had changed on page 1, is free as it was kept
	x.places(t, []int{0}, []int{0})
	x.stands(t, []int{2, 5}, []int{4})
}

// P10.2: a page's old block goes down by one alone: who else refers to it still does.
func TestOldBlockReferredTo(t *testing.T) {
	counts := make([]int, 70)
	counts[10], counts[11], counts[12] = 3, 65535, 1
	x := of(t, 2, counts, []int{10, 11}, []int{12})
	x.up(t, 69)
	x.places(t, []int{0, 1}, []int{0})
	if x.tally.Get(10) != 2 || x.tally.Get(11) != 65534 || x.tally.Get(12) != 0 {
		t.Error(x.tally.Get(10), x.tally.Get(11), x.tally.Get(12))
	}
}

// leave takes blocks till the room is so much.
func (x *set) leave(t testing.TB, room int) {
	t.Helper()
	for x.pick.Room() > room {
		x.pick.Take()
		x.plain.take()
	}
	if x.pick.Room() != room {
		t.Fatalf("Room %d, not %d", x.pick.Room(), room)
	}
	x.tells(t)
}

// P10.2, R2: as much room as Need tells is enough, whether all pages are placed, some, or none; with one less nothing is, though there would be room for what has changed, or nothing has.
func TestRoom(t *testing.T) {
	for _, n := range []int{16, 61, 62, 200, 3721, 3722, 4096} {
		for _, kept := range []bool{true, false} {
			x := placed(t, n)
			x.up(t, 1)
			x.leave(t, place.Need(n))
			if kept {
				x.keep(t)
			}
			x.place(t)
			x = nowhere(t, 2, make([]int, n))
			x.leave(t, place.Need(n))
			x.places(t, seq(pagesOf(n)), seq(pagesOf(pagesOf(n))))
			if x.pick.Room() != 0 {
				t.Error(n, x.pick.Room())
			}
			x = placed(t, n)
			x.up(t, 1)
			x.leave(t, place.Need(n)-1)
			if kept {
				x.keep(t)
			}
			x.refuses(t, x.sheet, api.ErrSpace)
			x.leave(t, 0)
			x.refuses(t, x.sheet, api.ErrSpace)
		}
	}
}

// P10.2: room is what the pick hands out: free blocks ahead of its first one, and those that wait, are none.
func TestRoomOfThePick(t *testing.T) {
	for first := range 17 {
		x := nowhere(t, first, make([]int, 16))
		if first < 15 {
			x.place(t)
		} else {
			x.refuses(t, x.sheet, api.ErrSpace)
		}
	}
	counts := make([]int, 16)
	counts[14] = 1
	x := nowhere(t, 13, counts)
	x.place(t)
	x = nowhere(t, 14, counts)
	x.down(t, 14)
	x.refuses(t, x.sheet, api.ErrSpace)
	x.keep(t)
	x.place(t)
}

// P10.2: what was asked for ahead of an operation is held against nothing here: it is the room alone that counts.
func TestAskedIsNoMatter(t *testing.T) {
	x := nowhere(t, 2, make([]int, 16))
	if e := x.pick.Ask(14); e != api.OK {
		t.Fatal(e)
	}
	x.place(t)
	if x.pick.Asked() != 14 {
		t.Error(x.pick.Asked())
	}
}

// P10.2, P10.3: Place again without a Keep: what was placed has changed, so it is placed once more, and its old blocks, which were never kept, are free.
func TestAgainWithoutKeep(t *testing.T) {
	x := nowhere(t, 2, make([]int, 16))
	x.place(t)
	x.places(t, []int{0}, []int{0})
	x.stands(t, []int{4}, []int{5})
	if !x.tally.Free(2) || !x.tally.Free(3) || x.tally.Waits() != 0 {
		t.Error(x.tally.Get(2), x.tally.Get(3), x.tally.Waits())
	}
	x = placed(t, 200)
	x.up(t, 150)
	x.place(t)
	x.stands(t, []int{8, 3, 7, 5}, []int{9})
	x.places(t, []int{0, 2}, []int{0})
	x.stands(t, []int{10, 3, 11, 5}, []int{12})
	for range 30 {
		x.place(t)
	}
}

// P10.3: behind a Keep none is placed again, and the blocks that waited are free.
func TestAgainBehindKeep(t *testing.T) {
	for _, n := range roomy {
		x := placed(t, n)
		if x.pick.Room() < 2*place.Need(n) {
			continue
		}
		x.up(t, n/2, n-1)
		x.place(t)
		s := x.copies()
		x.keep(t)
		for range 3 {
			x.places(t, nil, nil)
			x.stands(t, s.Pages, s.Dirs)
		}
		if x.tally.Waits() != 0 {
			t.Error(n, x.tally.Waits())
		}
	}
}

// P10.2: behind a Back the sheet of before is right again, and nothing has changed for it; the one that Place answered stands at blocks without counts.
func TestAgainBehindBack(t *testing.T) {
	x := placed(t, 200)
	before := x.copies()
	x.up(t, 150)
	x.place(t)
	behind := x.copies()
	x.back(t)
	x.right(t, behind, false)
	x.refuses(t, behind, api.ErrSheet)
	x.stand(before)
	x.places(t, nil, nil)
	x.up(t, 150)
	x.places(t, []int{0, 2}, []int{0})
	x.stands(t, []int{11, 3, 10, 5}, []int{12}) // 7 to 9 were handed out: the pick goes on behind them
	x = nowhere(t, 2, make([]int, 16))
	before = x.copies()
	x.place(t)
	x.back(t)
	x.refuses(t, x.sheet, api.ErrSheet)
	x.stand(before)
	x.places(t, []int{0}, []int{0})
	x.stands(t, []int{4}, []int{5})
}

// noPicks are picks that are none.
func noPicks(t testing.TB, v *tally.Tally) []*pick.Pick {
	t.Helper()
	one := func() *pick.Pick {
		p, e := pick.New(v, 0)
		if e != api.OK {
			t.Fatal(e)
		}
		return p
	}
	byValue := *one()
	over, emptied := one(), one()
	*over = *one()
	*emptied = pick.Pick{}
	refused, _ := pick.New(v, -1)
	return []*pick.Pick{nil, {}, new(pick.Pick), &byValue, over, emptied, refused}
}

// P10.2, R2, R5: a pick that is nil, or was not made, has no room: ErrSpace, of a right sheet.
func TestNoPick(t *testing.T) {
	for _, n := range []int{1, 16, 200} {
		x := nowhere(t, 0, make([]int, n))
		for i, p := range noPicks(t, x.tally) {
			s, pages, dirs, e := place.Place(x.tally, p, x.sheet)
			if e != api.ErrSpace || s.Pages != nil || s.Dirs != nil || len(pages)+len(dirs) != 0 {
				t.Errorf("%d blocks, pick %d: %v %v %v %v", n, i, s, pages, dirs, e)
			}
			if _, _, _, e := place.Place(x.tally, p, api.Sheet{}); e != api.ErrSheet {
				t.Errorf("%d blocks, pick %d: %v", n, i, e)
			}
		}
		x.tells(t)
	}
}

// P10.2, R2, R5: a tally that is nil, or was not made, is none: ErrNil, ahead of all other errors; nothing changes of a pick that is handed in.
func TestPlaceOfNoTally(t *testing.T) {
	x := nowhere(t, 2, make([]int, 16))
	full := nowhere(t, 16, make([]int, 16))
	for i, v := range none(t) {
		for j, p := range []*pick.Pick{x.pick, full.pick, nil, {}} {
			for _, s := range []api.Sheet{{}, x.sheet, {Pages: []int{2}, Dirs: []int{2}}, {Pages: []int{-1, 9}}} {
				out, pages, dirs, e := place.Place(v, p, s)
				if e != api.ErrNil || out.Pages != nil || out.Dirs != nil || len(pages)+len(dirs) != 0 {
					t.Errorf("tally %d, pick %d: %v: %v %v %v %v", i, j, s, out, pages, dirs, e)
				}
			}
		}
	}
	x.tells(t)
	full.tells(t)
}

// P10.2, R2: of several errors the one named first counts: a sheet that is not right ahead of room that is too little.
func TestOrderOfErrors(t *testing.T) {
	x := placed(t, 62)
	x.leave(t, 2)
	x.refuses(t, x.sheet, api.ErrSpace)
	x.refuses(t, api.Sheet{}, api.ErrSheet)
	x.refuses(t, x.with(0, 5), api.ErrSpace) // it was taken, so it has a count
	x.refuses(t, x.with(0, 61), api.ErrSheet)
	x.refuses(t, x.with(0, 62), api.ErrSheet)
	x.refuses(t, x.with(2, x.sheet.Pages[0]), api.ErrSheet)
}

// P10.2, R1: of a pick of another tally it is not told what happens; but Place answers.
func TestPickOfAnotherTally(t *testing.T) {
	for _, n := range []int{1, 2, 16, 62, 4096} {
		for _, m := range []int{1, 2, 16, 62, 4096} {
			for _, first := range []int{0, m / 2, m} {
				x, y := nowhere(t, 0, make([]int, n)), nowhere(t, first, make([]int, m))
				s, _, _, e := place.Place(x.tally, y.pick, x.sheet)
				place.Place(x.tally, y.pick, s)
				if (e == api.ErrSpace) != (m-first < place.Need(n)) {
					t.Error(n, m, first, e)
				}
			}
		}
	}
}

// P10.2, R3: the sheet that is handed in is neither changed nor kept, nor is its spare room; what is handed out shares no memory with it, nor with one another.
func TestMemory(t *testing.T) {
	spare := func(l []int) []int { return append(slices.Clone(l), 77, 78, 79)[:len(l)] }
	whole := func(l []int) []int { return l[:len(l)+3] }
	x := placed(t, 200)
	x.up(t, 150)
	in := api.Sheet{Pages: spare(x.sheet.Pages), Dirs: spare(x.sheet.Dirs)}
	x.sheet = in
	before := api.Sheet{Pages: slices.Clone(whole(in.Pages)), Dirs: slices.Clone(whole(in.Dirs))}
	out, pages, dirs, e := place.Place(x.tally, x.pick, in)
	if e != api.OK {
		t.Fatal(e)
	}
	if !same(api.Sheet{Pages: whole(in.Pages), Dirs: whole(in.Dirs)}, before) {
		t.Fatal(in)
	}
	x.plain.place()
	want := [][]int{slices.Clone(out.Pages), slices.Clone(out.Dirs), slices.Clone(pages), slices.Clone(dirs)}
	if !slices.EqualFunc(want, [][]int{{8, 3, 7, 5}, {9}, {0, 2}, {0}}, slices.Equal[[]int]) {
		t.Fatal(want)
	}
	all := [][]int{out.Pages, out.Dirs, pages, dirs, whole(in.Pages), whole(in.Dirs)}
	for i := range all { // each is written over with its spare room; no other one may be another for it
		clear(all[i][:cap(all[i])])
		for j := i + 1; j < 4; j++ {
			if !slices.Equal(all[j], want[j]) {
				t.Errorf("%d has changed with %d: %v", j, i, all[j])
			}
		}
	}
	x.tells(t)
}

// P10.2, R3: a list of both kinds of pages in one memory is no matter: neither is written.
func TestSheetInOneMemory(t *testing.T) {
	x := placed(t, 200)
	x.up(t, 150)
	one := slices.Concat(x.sheet.Pages, x.sheet.Dirs)
	x.sheet = api.Sheet{Pages: one[:4], Dirs: one[4:]}
	x.places(t, []int{0, 2}, []int{0})
	if !slices.Equal(one, []int{2, 3, 4, 5, 6}) {
		t.Error(one)
	}
}

// P10.2, R3: where nothing is placed the sheet is handed out anew, too.
func TestMemoryOfNothingPlaced(t *testing.T) {
	x := placed(t, 200)
	s, _, _, e := place.Place(x.tally, x.pick, x.sheet)
	if e != api.OK || !same(s, x.sheet) {
		t.Fatal(s, e)
	}
	before := x.copies()
	clear(s.Pages[:cap(s.Pages)])
	clear(s.Dirs[:cap(s.Dirs)])
	if !same(x.sheet, before) {
		t.Error(x.sheet)
	}
}

// P10.2: a pick that begins at 0 hands out block 0 as any other one; a page that was placed there is not placed a second time in the call.
func TestBlock0IsTaken(t *testing.T) {
	x := nowhere(t, 0, make([]int, 16))
	x.places(t, []int{0}, []int{0})
	x.stands(t, []int{0}, []int{1})
	if x.tally.Get(0) != 1 || x.tally.Get(1) != 1 {
		t.Error(place.Counts(x.tally, 0))
	}
	x.keep(t)
	x.places(t, []int{0}, []int{0})
	x.stands(t, []int{2}, []int{3})
	if x.tally.Get(0) != 1 {
		t.Error(x.tally.Get(0))
	}
}

// walk is a set that goes through whatever happens, by chance.
type walk struct {
	*set
	rnd    *rand.Rand
	counts []int // how often a block is referred to but by pages
	kept   []int
	stood  api.Sheet // where pages stood at the last Keep
	met    map[string]int
}

// step lets one thing happen.
func (w *walk) step(t testing.TB) {
	b := w.rnd.Intn(len(w.counts))
	switch w.rnd.Intn(12) {
	case 0, 1, 2, 3:
		if w.counts[b] < 3 {
			w.up(t, b)
			w.counts[b]++
		}
	case 4, 5, 6:
		if w.counts[b] > 0 {
			w.down(t, b)
			w.counts[b]--
		}
	case 7:
		w.placeOrNot(t)
		w.keep(t)
		copy(w.kept, w.counts)
		w.stood = w.copies()
	case 8:
		w.back(t)
		copy(w.counts, w.kept)
		w.stand(w.stood)
	case 9:
		at := w.rnd.Intn(place.Need(len(w.counts)))
		s := w.with(at, w.rnd.Intn(len(w.counts)+4)-2)
		if want := w.plain.right(s); want {
			w.met["right"]++
			w.right(t, s, true)
		} else {
			w.met["sheet"]++
			w.right(t, s, false)
			w.refuses(t, s, api.ErrSheet)
		}
	default:
		w.placeOrNot(t)
	}
}

// placeOrNot places, if there is room.
func (w *walk) placeOrNot(t testing.TB) {
	if w.plain.room() < place.Need(len(w.counts)) {
		w.met["space"]++
		w.refuses(t, w.sheet, api.ErrSpace)
		return
	}
	pages, dirs := w.place(t)
	w.follows(t, w.counts, pages, dirs)
	if len(pages) == 0 {
		w.met["none"]++
	} else {
		w.met["some"]++
	}
}

// P10.1 to P10.3, R2, R4: counts that go up and down, Keeps, Backs and Places, and sheets that are not right between, beside the words.
func TestByChance(t *testing.T) {
	met := map[string]int{}
	for seed := range int64(150) {
		rnd := rand.New(rand.NewSource(seed))
		n := []int{6, 12, 16, 61, 62, 100, 130, 200, 400}[rnd.Intn(9)]
		counts := make([]int, n)
		for b := range counts {
			counts[b] = max(0, rnd.Intn(6)-4)
		}
		x := nowhere(t, 1+rnd.Intn(3), counts)
		w := &walk{x, rnd, slices.Clone(counts), slices.Clone(counts), x.copies(), met}
		for range 80 {
			w.step(t)
		}
		w.tells(t)
	}
	for _, what := range []string{"right", "sheet", "space", "none", "some"} {
		if met[what] < 20 {
			t.Error(what, met[what])
		}
	}
}

// P10.1, P10.2: pages that stand anywhere, some nowhere, of counts of any kind, beside the words.
func TestAnySheet(t *testing.T) {
	for seed := range int64(400) {
		rnd := rand.New(rand.NewSource(seed))
		n := []int{16, 61, 62, 100, 200, 400, 3722, 4096}[rnd.Intn(8)]
		counts := make([]int, n)
		pages := make([]int, pagesOf(n))
		dirs := make([]int, pagesOf(pagesOf(n)))
		blocks := rnd.Perm(n - 1)
		for i, l := range [][]int{pages, dirs} {
			for j := range l {
				if rnd.Intn(8) > 0 {
					l[j] = blocks[i*len(pages)+j] + 1
					counts[l[j]] = 1 + rnd.Intn(2)
				}
			}
		}
		x := of(t, rnd.Intn(4), counts, pages, dirs)
		for range rnd.Intn(4) {
			x.up(t, rnd.Intn(n))
		}
		x.right(t, x.sheet, true)
		if x.plain.room() < place.Need(n) {
			x.refuses(t, x.sheet, api.ErrSpace)
			continue
		}
		x.place(t)
	}
}
