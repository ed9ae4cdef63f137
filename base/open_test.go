package base_test

import (
	"bytes"
	"math"
	"slices"
	"testing"

	"catchment/api"
	"catchment/base"
	"catchment/disk"
)

// junk is a disk on which something stands everywhere; some of it only waits.
func junk(t testing.TB, n int) (*disk.Disk, [][]byte) {
	t.Helper()
	d, says := made(t, n), blank(n)
	for at := range n {
		says[at] = mixed(at)
		d.Write(at, says[at])
		if at == n-3 {
			d.Flush()
		}
	}
	return d, says
}

// stands holds all that stands on a disk against what should; nothing may wait.
func stands(t testing.TB, d *disk.Disk, says [][]byte) {
	t.Helper()
	c := d.Copy()
	c.Crash(api.Crash{Torn: -1})
	for at := range c.Len() {
		if data, e := c.Read(at); e != api.OK || !bytes.Equal(data, says[at]) {
			t.Fatalf("block %d: %v %v, not %v", at, data, e, says[at])
		}
	}
	if len(d.Cached()) > 0 {
		t.Fatal("there are writes that wait:", d.Cached())
	}
}

// P11.1: what stands where behind a Format, of noughts and of anything; all else stays.
func TestFormat(t *testing.T) {
	for _, n := range sizes {
		d, says := junk(t, n)
		for _, x := range []struct {
			d    *disk.Disk
			says [][]byte
		}{{made(t, n), blank(n)}, {d, says}} {
			p, ops := formatted(x.says)
			arm(t, x.d, 200)
			if e := base.Format(x.d); e != api.OK {
				t.Fatal(n, e)
			}
			if did := 200 - left(x.d, 200); did != len(ops) {
				t.Fatalf("%d blocks: it writes and flushes %d times, not %d", n, did, len(ops))
			}
			stands(t, x.d, p.says)
			opened(t, x.d, p)
		}
	}
}

// P11.1: the bytes of the super, of the count page and of the directory page of 16 blocks.
func TestFormatBytes(t *testing.T) {
	d := made(t, 16)
	base.Format(d)
	for at, want := range [][]byte{
		make([]byte, 128),
		sealed(6, []byte{0, 0, 0, 0, 0, 0, 0, 1, 0, 0, 0, 16, 0, 0, 0, 3}, make([]byte, 99), []byte{0, 0, 0, 0, 0, 0, 0, 1}),
		sealed(5, []byte{16, 0, 0, 0, 0, 0, 1, 0, 1}),
		sealed(4, []byte{1, 0, 2}),
		make([]byte, 128),
	} {
		if data, e := d.Read(at); e != api.OK || !bytes.Equal(data, want) {
			t.Errorf("block %d: %v %v, not %v", at, data, e, want)
		}
	}
}

// waiting are those of ops behind the last flush.
func waiting(ops []op) []op {
	for i := len(ops) - 1; i >= 0; i-- {
		if ops[i].at < 0 {
			return ops[i+1:]
		}
	}
	return ops
}

// P11.1: in which order Format writes and flushes; the first error of the disk is its error.
func TestFormatOrder(t *testing.T) {
	for _, n := range []int{16, 61, 62, 123, 4096} {
		_, ops := formatted(blank(n))
		for k := range len(ops) + 1 {
			d := made(t, n)
			arm(t, d, k)
			want := api.OK
			if k < len(ops) {
				want = api.ErrDown
			}
			if e := base.Format(d); e != want || d.Down() != (k < len(ops)) {
				t.Fatal(n, k, e, want)
			}
			if w := places(waiting(ops[:k])); !slices.Equal(d.Cached(), w) {
				t.Fatal(n, k, d.Cached(), w)
			}
			if k < len(ops) {
				if e := base.Format(d); e != api.ErrDown {
					t.Fatal(n, k, e)
				}
			}
		}
	}
}

// P11.1: a disk that was formatted is formatted again, as if it never had been.
func TestFormatAgain(t *testing.T) {
	x := start(t, 16)
	for i := range 3 {
		x.put(mixed(i))
		x.mark(i, 5)
		x.root(2+i, 9)
		x.commit()
	}
	if e := base.Format(x.d); e != api.OK {
		t.Fatal(e)
	}
	p, _ := formatted(x.p.says)
	stands(t, x.d, p.says)
	opened(t, x.d, p)
}

// pool is a pool that is laid by hand, right or not.
type pool struct {
	n            int
	gen          uint64
	blocks       int
	roots        [8]int
	marks        [8]uint64
	pages        [][]int // the counts on each count page
	dirs         [][]int // what each directory page tells
	pageAt       []int
	dirAt        []int
	slot         int
	countKind    uint8
	dirKind      uint8
	more         map[int][]byte // what stands over all that
	junk, behind bool           // junk where nothing stands; nothing is flushed
}

// hand lays a pool that is right: count pages from 5 on, directory pages behind them, one more block that is referred to.
func hand(n int) *pool {
	l := &pool{n: n, gen: 6, blocks: n, countKind: 5, dirKind: 4, more: map[int][]byte{}}
	counts := make([]int, n)
	for i := range pagesOf(n) {
		l.pageAt = append(l.pageAt, 5+i)
	}
	for i := range pagesOf(pagesOf(n)) {
		l.dirAt = append(l.dirAt, 5+pagesOf(n)+i)
	}
	for _, at := range slices.Concat(l.pageAt, l.dirAt, []int{n - 2}) {
		counts[at] = 1
	}
	for i := range l.pageAt {
		l.pages = append(l.pages, slices.Clone(counts[61*i:min(61*i+61, n)]))
	}
	for i := range l.dirAt {
		l.dirs = append(l.dirs, slices.Clone(l.pageAt[61*i:min(61*i+61, len(l.pageAt))]))
	}
	copy(l.roots[:], l.dirAt)
	l.roots[2], l.marks[7] = n-2, math.MaxUint64
	return l
}

// count sets a count.
func (l *pool) count(at, n int) { l.pages[at/61][at%61] = n }

// disk lays the pool on a disk.
func (l *pool) disk(t testing.TB) *disk.Disk {
	t.Helper()
	d := made(t, l.n)
	write := func(at int, data []byte) {
		if e := d.Write(at, data); e != api.OK {
			t.Fatal(at, e)
		}
	}
	for at := range l.n {
		if l.junk {
			write(at, mixed(at))
		}
	}
	for i, at := range l.pageAt {
		write(at, numbersPage(l.countKind, l.pages[i]))
	}
	for i, at := range l.dirAt {
		write(at, numbersPage(l.dirKind, l.dirs[i]))
	}
	write(l.slot, superPage(l.gen, l.blocks, l.roots, l.marks))
	for at, data := range l.more {
		write(at, data)
	}
	if !l.behind {
		d.Flush()
	}
	return d
}

// plain is what the words say of the pool, if it is right.
func (l *pool) plain(d *disk.Disk) *plain {
	p := &plain{gen: l.gen, rootsWere: l.roots, marksWere: l.marks, now: make([]int, l.n), was: slices.Concat(l.pages...), pages: slices.Concat(l.dirs...), dirs: l.dirAt}
	for at := range l.n {
		data, _ := d.Read(at)
		p.says = append(p.says, data)
	}
	return p
}

// changed is a block with another byte.
func changed(b []byte, at int) []byte {
	b = bytes.Clone(b)
	b[at]++
	return b
}

// P11.2: pools that were laid by hand are opened, and may be gone on with.
func TestOpenOfOthers(t *testing.T) {
	older := func(gen uint64, blocks int) []byte { return superPage(gen, blocks, [8]int{9}, [8]uint64{1}) }
	for what, change := range map[string]func(l *pool){
		"as it is":                      func(l *pool) {},
		"junk elsewhere":                func(l *pool) { l.junk = true },
		"nothing is flushed":            func(l *pool) { l.behind = true },
		"an older super":                func(l *pool) { l.more[1] = older(5, l.n) },
		"one that is much older":        func(l *pool) { l.gen = math.MaxUint64 - 3; l.more[1] = older(1, l.n) },
		"an older one of another disk":  func(l *pool) { l.more[1] = older(5, l.n+1) },
		"a greater one in another slot": func(l *pool) { l.more[1] = older(8, l.n) },
		"a greater one that is torn":    func(l *pool) { l.more[1] = changed(older(7, l.n), 127) },
		"a greater one, no right super": func(l *pool) { l.more[1] = older(7, 15) },
		"the other slot":                func(l *pool) { l.gen, l.slot = 7, 1 },
		"the other slot, an older one":  func(l *pool) { l.gen, l.slot = 7, 1; l.more[0] = older(6, l.n) },
		"the first generation":          func(l *pool) { l.gen, l.slot = 1, 1 },
		"roots anywhere":                func(l *pool) { l.roots = [8]int{l.roots[0], l.roots[1], 1, 2, 5, l.n - 1, 0, 5} },
		"marks":                         func(l *pool) { l.marks = [8]uint64{1, 2, 3, 4, 5, 6, 7, 8} },
		"supers are counted":            func(l *pool) { l.count(0, 3); l.count(1, 65535) },
		"pages are counted twice":       func(l *pool) { l.count(l.pageAt[0], 2); l.count(l.dirAt[0], 65535) },
		"the greatest count":            func(l *pool) { l.count(l.n-1, 65535) },
		"what was no more than kept back": func(l *pool) {
			for at := 2 + 2*need(l.n) + 3; at < l.n; at++ {
				l.count(at, 1)
			}
		},
	} {
		for _, n := range []int{16, 17, 61, 62, 123, 3722, 4096} {
			l := hand(n)
			change(l)
			d := l.disk(t)
			before := whole(t, d)
			x := opened(t, d, l.plain(d))
			if whole(t, d) != before {
				t.Fatal(what, n, "Open has changed the disk")
			}
			x.mark(0, 77)
			x.commit()
			if x.b.Room() > 0 {
				x.put(mixed(1))
			}
			x.commit()
			x.again()
			if t.Failed() {
				t.Fatal(what, n)
			}
		}
	}
}

// noPool opens a disk, which has to be refused; it stays as it is.
func noPool(t testing.TB, what string, d *disk.Disk) {
	t.Helper()
	before := whole(t, d)
	for range 2 {
		if b, e := base.Open(d); b != nil || e != api.ErrPool {
			t.Errorf("%s, %d blocks: %v %v", what, d.Len(), b, e)
		}
	}
	if whole(t, d) != before {
		t.Errorf("%s, %d blocks: Open has changed the disk", what, d.Len())
	}
}

// other is how many blocks another disk has.
func other(n int) int {
	if n == 4096 {
		return 4090
	}
	return 4096
}

// P11.2: disks without a super that counts, or whose super is of another disk.
func TestOpenOfNoSuper(t *testing.T) {
	for _, n := range []int{16, 62, 3722, 4096} {
		noPool(t, "noughts", made(t, n))
		d, _ := junk(t, n)
		noPool(t, "junk", d)
		l := hand(n)
		right := superPage(l.gen, n, l.roots, l.marks)
		for what, change := range map[string]func(){
			"torn at its first bytes":    func() { l.more[0] = append(right[:60:60], make([]byte, 68)...) },
			"torn at its last bytes":     func() { l.more[0] = append(make([]byte, 60), right[60:]...) },
			"a byte of its sum":          func() { l.more[0] = changed(right, 127) },
			"a byte of its generation":   func() { l.more[0] = changed(right, 8) },
			"another kind":               func() { l.more[0] = changed(right, 0) },
			"noughts over it":            func() { l.more[0] = make([]byte, 128) },
			"generation 0":               func() { l.gen = 0 },
			"the wrong slot":             func() { l.slot = 1 },
			"the wrong slot, again":      func() { l.gen = 7 },
			"a block less":               func() { l.blocks-- },
			"a block more":               func() { l.blocks++ },
			"many more, or fewer":        func() { l.blocks, l.roots[2] = other(n), 9 },
			"more than there may be":     func() { l.blocks = 4097 },
			"none":                       func() { l.blocks = 0 },
			"a greater one of another":   func() { l.more[1] = superPage(7, other(n), [8]int{2}, l.marks) },
			"a greater one, other pages": func() { l.more[1] = superPage(7, n, [8]int{n - 1, n - 2}, l.marks) },
			"a root behind the last":     func() { l.roots[7] = n },
		} {
			l = hand(n)
			change()
			noPool(t, what, l.disk(t))
		}
	}
}

// P11.2: roots 0 and 1 that are no directory pages, or too few or too many of them; directory pages that do not tell just the count pages; count pages that do not have just the counts.
func TestOpenOfNoPages(t *testing.T) {
	for _, n := range []int{16, 61, 62, 122, 123, 3721, 3722, 4096} {
		last, tail := pagesOf(n)-1, need(n)+4 // the last count page; the block of the last directory page
		for what, change := range map[string]func(l *pool){
			"no root 0":             func(l *pool) { l.roots[0] = 0 },
			"no roots":              func(l *pool) { l.roots[0], l.roots[1] = 0, 0 },
			"root 0 is 1":           func(l *pool) { l.roots[0] = 1 },
			"root 0 is the super":   func(l *pool) { l.gen, l.slot, l.roots[0] = 7, 1, 1 },
			"noughts":               func(l *pool) { l.roots[0] = 3 },
			"a count page":          func(l *pool) { l.roots[0] = 5 },
			"data":                  func(l *pool) { l.more[l.roots[0]] = mixed(1) },
			"kinds of directories":  func(l *pool) { l.dirKind = 5 },
			"kinds of count pages":  func(l *pool) { l.countKind = 4 },
			"no kinds":              func(l *pool) { l.countKind, l.dirKind = 3, 3 },
			"both kinds exchanged":  func(l *pool) { l.countKind, l.dirKind = 4, 5 },
			"roots at another page": func(l *pool) { l.roots[0] = l.n - 1; l.more[l.n-1] = numbersPage(4, l.dirs[0]) }, // it has no count
			"a torn directory":      func(l *pool) { l.more[tail] = changed(numbersPage(4, l.dirs[len(l.dirs)-1]), 127) },
			"a torn count page":     func(l *pool) { l.more[l.pageAt[last]] = changed(numbersPage(5, l.pages[last]), 50) },
			"a byte behind counts":  func(l *pool) { l.more[l.pageAt[0]] = changed(numbersPage(5, l.pages[0]), 123) },
			"no counts":             func(l *pool) { l.pages[0] = nil },
			"a count less":          func(l *pool) { l.pages[last] = l.pages[last][:len(l.pages[last])-1] },
			"a count less, first":   func(l *pool) { l.pages[0] = l.pages[0][:len(l.pages[0])-1] },
			"a count more":          func(l *pool) { l.more[l.pageAt[last]] = longer(5, l.pages[last]) },
			"no pages":              func(l *pool) { l.dirs[0] = nil },
			"a page less":           func(l *pool) { d := &l.dirs[len(l.dirs)-1]; *d = (*d)[:len(*d)-1] },
			"a page less, first":    func(l *pool) { l.dirs[0] = l.dirs[0][:len(l.dirs[0])-1] },
			"a page more":           func(l *pool) { l.more[tail] = longer(4, l.dirs[len(l.dirs)-1]) },
			"a page at 0":           func(l *pool) { l.dirs[0][0] = 0 },
			"a page at 0, last":     func(l *pool) { d := l.dirs[len(l.dirs)-1]; d[len(d)-1] = 0 },
			"a page at 1":           func(l *pool) { l.dirs[0][0] = 1 },
			"a page behind all":     func(l *pool) { l.dirs[0][0] = l.n },
			"a page at 65535":       func(l *pool) { d := l.dirs[len(l.dirs)-1]; d[len(d)-1] = 65535 },
			"a page at 4096":        func(l *pool) { l.dirs[0][0] = 4096 },
			"a page at its own":     func(l *pool) { l.dirs[0][0] = l.dirAt[0] },
			"a page without count":  func(l *pool) { l.count(l.pageAt[0], 0) },
			"the last one without":  func(l *pool) { l.count(l.pageAt[last], 0) },
			"a directory without":   func(l *pool) { l.count(l.dirAt[0], 0) },
			"the last directory":    func(l *pool) { l.count(l.dirAt[len(l.dirAt)-1], 0) },
		} {
			l := hand(n)
			change(l)
			noPool(t, what, l.disk(t))
		}
	}
}

// longer is a page of one number more, if one fits; else one that says that there is.
func longer(kind uint8, l []int) []byte {
	if len(l) < 61 {
		return numbersPage(kind, append(slices.Clone(l), 3))
	}
	body := []byte{62}
	for _, n := range l {
		body = append(body, big(uint64(n), 2)...)
	}
	return sealed(kind, body)
}

// P11.2: a page ahead of First is none, though a page stands there, and the block has a count: block 0, and block 1, where no super is.
func TestOpenOfPagesAheadOfFirst(t *testing.T) {
	for _, n := range []int{16, 62, 4096} {
		for at := range 2 {
			of := func() *pool {
				l := hand(n)
				l.gen, l.slot = uint64(7-at), 1-at // the super is in the other one
				l.count(at, 1)
				return l
			}
			l := of()
			opened(t, l.disk(t), l.plain(l.disk(t)))
			l.pageAt[0], l.dirs[0][0] = at, at
			noPool(t, "a count page ahead of First", l.disk(t))
			l = of()
			l.dirAt[0], l.roots[0] = at, at
			noPool(t, "a directory page ahead of First", l.disk(t))
		}
	}
}

// P11.2: a page that is there twice, where both have just the same counts.
func TestOpenOfPageTwice(t *testing.T) {
	l := hand(244) // four pages
	l.count(9, 0)
	clear(l.pages[3])
	clear(l.pages[2])
	l.more[8] = numbersPage(5, l.pages[2])
	l.dirs[0][3] = l.dirs[0][2]
	noPool(t, "a count page twice", l.disk(t))
	l.dirs[0][3] = 8
	l.count(9, 1)
	opened(t, l.disk(t), l.plain(l.disk(t)))
}

// P11.2: one directory page where two have to be, and two where one has to be; pages that are told by the wrong one of both.
func TestOpenOfDirectories(t *testing.T) {
	for _, n := range []int{16, 62, 3721} {
		for _, second := range []int{1, 2, 3, 5, hand(n).roots[0], n - 2, n - 1} {
			l := hand(n)
			l.roots[1] = second
			if second > 8 && second != l.roots[0] {
				l.more[second] = numbersPage(4, nil)
			}
			noPool(t, "a second directory page", l.disk(t))
		}
	}
	for _, n := range []int{3722, 4096} {
		for what, change := range map[string]func(l *pool){
			"no second one":      func(l *pool) { l.roots[1] = 0 },
			"no first one":       func(l *pool) { l.roots[0] = 0 },
			"the second one, 1":  func(l *pool) { l.roots[1] = 1 },
			"the first one":      func(l *pool) { l.roots[1] = l.roots[0] },
			"the second one":     func(l *pool) { l.roots[0] = l.roots[1] },
			"exchanged":          func(l *pool) { l.roots[0], l.roots[1] = l.roots[1], l.roots[0] },
			"noughts":            func(l *pool) { l.roots[1] = 3 },
			"one page too early": func(l *pool) { l.dirs[1] = append([]int{l.dirs[0][60]}, l.dirs[1]...); l.dirs[0] = l.dirs[0][:60] },
			"none in the second": func(l *pool) { l.dirs[1] = nil },
			"none in the first":  func(l *pool) { l.dirs[0] = nil },
			"a page in both":     func(l *pool) { l.dirs[1][0] = l.dirs[0][0] },
		} {
			l := hand(n)
			change(l)
			noPool(t, what, l.disk(t))
		}
	}
}

// P11.2: the disk's errors are ahead of ErrPool; Open writes nothing.
func TestOpenWithoutPower(t *testing.T) {
	x := start(t, 16)
	for _, d := range []*disk.Disk{x.d, made(t, 16)} {
		arm(t, d, 0)
		base.Open(d)
		if d.Down() {
			t.Fatal("Open writes")
		}
		d.Flush()
		if b, e := base.Open(d); b != nil || e != api.ErrDown {
			t.Error(b, e)
		}
		if e := base.Format(d); e != api.ErrDown {
			t.Error(e)
		}
	}
}

// P11.5, P11.7: a disk whose blocks all have counts, as no base ever lays it: a root or a mark is committed; for a count there is no room, so nothing changes.
func TestFullPool(t *testing.T) {
	l := hand(16)
	for at := range 16 {
		l.count(at, 1)
	}
	d := l.disk(t)
	x := opened(t, d, l.plain(d))
	if x.b.Room() != 0 || x.b.Waits() != 0 {
		t.Fatal(x.b.Room(), x.b.Waits())
	}
	_, e := x.b.Put(mixed(1))
	x.refuses(api.ErrSpace, e)
	x.mark(0, 1)
	x.root(7, 9)
	x.commit()
	x.down(9)
	before := whole(t, d)
	x.refuses(api.ErrSpace, x.b.Commit(), x.b.Commit())
	if whole(t, d) != before {
		t.Error("the disk has changed")
	}
	x.back()
	x.again()
}

// R1: behind the last generation that there may be there is none: the Commit is refused, and nothing changes.
func TestLastGeneration(t *testing.T) {
	l := hand(16)
	l.gen, l.slot = math.MaxUint64, 1
	d := l.disk(t)
	x := opened(t, d, l.plain(d))
	if ops := x.commit(); len(ops) > 0 {
		t.Fatal(ops)
	}
	x.put(mixed(1))
	before := whole(t, d)
	x.refuses(api.ErrSuper, x.b.Commit(), x.b.Commit())
	if whole(t, d) != before {
		t.Error("the disk has changed")
	}
	x.back()
	l.gen, l.slot = math.MaxUint64-1, 0
	d = l.disk(t)
	x = opened(t, d, l.plain(d))
	x.put(mixed(1))
	x.commit()
	x.again()
}
