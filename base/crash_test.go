package base_test

import (
	"bytes"
	"math/rand"
	"slices"
	"testing"

	"catchment/api"
	"catchment/base"
	"catchment/disk"
)

// cuts are where a block may be torn: at its ends, in the kind, the generations, the sum.
var cuts = []int{0, 1, 5, 8, 9, 13, 40, 64, 111, 116, 122, 123, 124, 125, 127, 128}

// crashes tells crashes of so many writes that wait: all of them, if they are few; else some by chance, and those of which all, none, or one are kept.
func crashes(n int, few bool) []api.Crash {
	var l []api.Crash
	rnd := rand.New(rand.NewSource(int64(n)))
	masks := 1 << min(n, 6)
	if few {
		masks = min(masks, 4)
	}
	for m := range masks {
		keep := make([]bool, n)
		for i := range keep {
			keep[i] = m>>min(i, 30)&1 == 1 && i < 6
			if n > 6 || few {
				keep[i] = m == 1 || m > 1 && rnd.Intn(2) == 0
			}
		}
		l = append(l, api.Crash{Keep: keep, Torn: -1})
		for torn := range min(n, 6) {
			if n > 6 || few {
				torn = rnd.Intn(n)
			}
			for _, cut := range cuts {
				if few {
					cut = cuts[rnd.Intn(len(cuts))]
				}
				l = append(l, api.Crash{Keep: keep, Torn: torn, Cut: cut})
				if few {
					break
				}
			}
		}
	}
	return l
}

// recovers lets the power of a copy of a disk go, and holds what Open tells then against what it should be: the new one, if the new super stands there, else the old one.
func recovers(t testing.TB, d *disk.Disk, c api.Crash, was, is *plain) {
	t.Helper()
	d = d.Copy()
	if e := d.Crash(c); e != api.OK {
		t.Fatal(e)
	}
	want := was
	slot := int(is.gen % 2)
	if data, _ := d.Read(slot); bytes.Equal(data, is.says[slot]) {
		want = is
	}
	want = want.clone()
	want.open()
	before := whole(t, d)
	for range 2 {
		b, e := base.Open(d)
		if e != api.OK {
			t.Fatalf("%v: Open: %v", c, e)
		}
		if s := want.differs(b, false, false); s != "" {
			t.Fatalf("%v: generation %d: %s", c, want.gen, s)
		}
	}
	if whole(t, d) != before {
		t.Fatal(c, "Open has changed the disk")
	}
}

// broken holds that a Commit failed: the base is broken, and tells what it told.
func (x *set) broken(k int, e api.Errno) {
	x.t.Helper()
	if e != api.ErrDown || !x.b.Broken() {
		x.t.Fatal(k, e, x.b.Broken())
	}
	x.p.broken = true
	x.tells()
	x.p.broken = false
}

// through lets the power go at each operation of a Commit of what is done, of a base that is made anew each time, and crashes then in many ways. It tells at how many operations.
func through(t *testing.T, few bool, from func() *set, do func(x *set)) int {
	t.Helper()
	for k := 0; ; k++ {
		x := from()
		do(x)
		is := x.p.clone()
		ops := is.commit()
		was := x.p.clone()
		kept := was.was
		arm(t, x.d, k)
		e := x.b.Commit()
		if k < len(ops) {
			x.broken(k, e)
		} else {
			x.is("Commit", e, api.OK)
			x.p = is
			x.tells()
		}
		done := ops[:min(k, len(ops))]
		for _, o := range done {
			if o.at > 1 && kept[o.at] != 0 {
				t.Fatal("the words write over a block that is kept")
			}
		}
		if w := places(waiting(done)); !slices.Equal(x.d.Cached(), w) {
			t.Fatal(k, x.d.Cached(), w)
		}
		for _, c := range crashes(len(waiting(done)), few) {
			recovers(t, x.d, c, was, is)
		}
		if k > len(ops) {
			return len(ops)
		}
	}
}

// busy is a disk on which three Commits were done, some blocks wait, and others were let go.
func busy(t *testing.T, n int) *set {
	x := start(t, n)
	for i := range 3 {
		x.put(mixed(i))
		x.up(x.put(mixed(10 + i)))
		x.root(2+i, 4)
		x.mark(i, uint64(i+1))
		if i > 0 {
			x.down(4 + i - 1)
		}
		x.commit()
	}
	return x
}

// fresh are those blocks that are committed, and no pages.
func (x *set) committed() []int {
	var l []int
	for at := range x.p.was {
		if x.p.was[at] > 0 && !x.p.page(at) {
			l = append(l, at)
		}
	}
	return l
}

// P11.7: the power goes at each operation of a Commit; each part of what waits comes through, each write is torn.
func TestCrash(t *testing.T) {
	for what, do := range map[string]func(x *set){
		"one put": func(x *set) { x.put(mixed(50)) },
		"a mark":  func(x *set) { x.mark(5, 1<<63) },
		"a root":  func(x *set) { x.root(7, 9) },
		"ups":     func(x *set) { x.up(x.committed()[0]) },
		"downs":   func(x *set) { x.down(x.committed()[0]) },
		"some": func(x *set) {
			l := x.committed()
			x.down(l[0])
			x.up(l[1])
			x.over(x.put(mixed(60)), mixed(61))
			x.mark(0, 7)
		},
		"all":        func(x *set) { x.clear() },
		"put anew":   func(x *set) { x.down(x.put(mixed(1))); x.put(mixed(2)) },
		"behind one": func(x *set) { x.put(mixed(3)); x.commit(); x.down(x.committed()[0]); x.put(mixed(4)) },
		"opened":     func(x *set) { x.put(mixed(3)); x.commit(); x.again(); x.put(mixed(4)) },
		"taken back": func(x *set) { x.put(mixed(3)); x.down(x.committed()[1]); x.back(); x.put(mixed(4)) },
	} {
		t.Run(what, func(t *testing.T) {
			for _, from := range []func() *set{func() *set { return busy(t, 16) }, func() *set { x := busy(t, 16); x.mark(7, 7); x.commit(); return x }} {
				if n := through(t, false, from, do); n < 3 {
					t.Error(n)
				}
			}
		})
	}
}

// clear lets all go that is committed.
func (x *set) clear() {
	for _, at := range x.committed() {
		for x.b.Count(at) > 0 {
			x.down(at)
		}
	}
}

// P11.7: the first Commit behind a Format: the other slot has noughts.
func TestCrashOfTheFirstCommit(t *testing.T) {
	for _, n := range []int{16, 17, 61, 62, 122, 123} {
		through(t, false, func() *set { return start(t, n) }, func(x *set) { x.put(mixed(1)); x.root(2, 4) })
	}
}

// P11.7: disks whose counts stand on more than one page, and as much put as there is room for.
func TestCrashOfMany(t *testing.T) {
	for _, n := range []int{16, 61, 62, 122, 123} {
		through(t, true, func() *set { return busy(t, n) }, func(x *set) {
			x.down(x.committed()[1])
			for x.b.Room() > 0 {
				x.put(mixed(x.b.Room()))
			}
		})
	}
}

// P11.7: disks of the most blocks.
func TestCrashOfTheMostBlocks(t *testing.T) {
	for _, n := range []int{3722, 4096} {
		first := busy(t, n)
		for i := range 4 {
			first.skip(n/4*(i+1) - 3)
			first.put(mixed(i))
			first.put(mixed(i))
		}
		first.commit()
		from := func() *set { return opened(t, first.d.Copy(), first.p.clone()) }
		do := func(x *set) {
			for _, at := range x.committed() {
				x.down(at)
			}
			x.put(mixed(1))
		}
		x := from()
		do(x)
		is := x.p.clone()
		ops := is.commit()
		for _, k := range []int{0, 1, len(ops) - 4, len(ops) - 3, len(ops) - 2, len(ops) - 1} {
			y := from()
			do(y)
			arm(t, y.d, k)
			y.broken(k, y.b.Commit())
			for i, c := range crashes(len(waiting(ops[:k])), true) {
				if i%8 == 0 {
					recovers(t, y.d, c, y.p, is)
				}
			}
		}
	}
}

// P11.7: Commit upon Commit, each of which fails somewhere; each time the disk is opened anew, and goes on as what it was.
func TestCrashUponCrash(t *testing.T) {
	for seed := range int64(60) {
		rnd := rand.New(rand.NewSource(seed))
		x := start(t, []int{16, 18, 62, 123}[rnd.Intn(4)])
		for i := range 30 {
			for range rnd.Intn(4) {
				x.put(mixed(rnd.Intn(255)))
			}
			if l := x.committed(); len(l) > 0 {
				x.down(l[rnd.Intn(len(l))])
			}
			x.mark(rnd.Intn(8), uint64(i))
			x.crashOnce(rnd)
		}
	}
}

// crashOnce commits, with a power that goes somewhere or not, crashes, and opens anew.
func (x *set) crashOnce(rnd *rand.Rand) {
	x.t.Helper()
	is := x.p.clone()
	ops := is.commit()
	k := rnd.Intn(len(ops) + 2)
	arm(x.t, x.d, k)
	if e := x.b.Commit(); (e == api.OK) != (k >= len(ops)) {
		x.t.Fatal(k, len(ops), e)
	}
	n := len(x.d.Cached())
	c := api.Crash{Keep: make([]bool, n), Torn: rnd.Intn(n+2) - 1, Cut: cuts[rnd.Intn(len(cuts))]}
	for i := range c.Keep {
		c.Keep[i] = rnd.Intn(3) > 0
	}
	recovers(x.t, x.d, c, x.p, is)
	x.d.Crash(c)
	slot := int(is.gen % 2)
	if data, _ := x.d.Read(slot); len(ops) > 0 && bytes.Equal(data, is.says[slot]) {
		x.p = is
	}
	x.afresh()
}

// afresh opens the disk anew behind a crash: what blocks say that nobody has is told by the disk.
func (x *set) afresh() {
	x.t.Helper()
	for at := range x.p.was {
		if x.p.was[at] == 0 {
			x.p.says[at], _ = x.d.Read(at)
		}
	}
	x.again()
}

// P11.7, P11.1: the power goes at each operation of a Format of a disk that never was formatted: there is nothing on it, or all.
func TestCrashOfFormat(t *testing.T) {
	for _, n := range []int{16, 62, 123, 4096} {
		is, ops := formatted(blank(n))
		for k := range len(ops) + 1 {
			d := made(t, n)
			arm(t, d, k)
			base.Format(d)
			for i, c := range crashes(len(waiting(ops[:k])), n > 62) {
				if n == 4096 && i%40 > 0 {
					continue
				}
				nothingOrAll(t, d, c, is)
			}
		}
	}
}

// nothingOrAll lets the power of a copy of a disk go: Open tells of no pool, unless the super of the new one stands there.
func nothingOrAll(t *testing.T, d *disk.Disk, c api.Crash, is *plain) {
	t.Helper()
	d = d.Copy()
	d.Crash(c)
	if data, _ := d.Read(1); !bytes.Equal(data, is.says[1]) {
		noPool(t, "a Format that failed", d)
		return
	}
	b, e := base.Open(d)
	if e != api.OK {
		t.Fatal(c, e)
	}
	if s := is.differs(b, false, false); s != "" {
		t.Fatal(c, s)
	}
}

// P11.7, P11.1: the power goes at each operation of a Format of a disk that was formatted: as long as its super is not written over it is what it was; when noughts stand there nothing of it is told any more.
func TestCrashOfFormatAgain(t *testing.T) {
	for more := range 2 {
		x := busy(t, 16)
		for range more {
			x.mark(7, 7)
			x.commit()
		}
		is, ops := formatted(x.p.says)
		slot := int(x.p.gen % 2)
		for k := range len(ops) + 1 {
			d := x.d.Copy()
			arm(t, d, k)
			base.Format(d)
			for _, c := range crashes(len(waiting(ops[:k])), false) {
				after := d.Copy()
				after.Crash(c)
				data, _ := after.Read(slot)
				if k > 2 {
					nothingOrAll(t, d, c, is)
				} else if bytes.Equal(data, x.p.says[slot]) {
					opened(t, after, func() *plain { p := x.p.clone(); p.says[1-slot], _ = after.Read(1 - slot); return p }())
				} else if b, e := base.Open(after); e == api.OK && b.Gen() != x.p.gen-1 || e != api.OK && e != api.ErrPool {
					t.Fatal(k, c, e)
				}
			}
		}
	}
}

// P11.7: no block that has a kept count is ever written, by nothing that is done; what was committed is read behind all of it.
func TestKeptIsNeverWritten(t *testing.T) {
	x := busy(t, 16)
	for i := range 200 {
		l := x.committed()
		x.down(l[i%len(l)])
		for x.b.Room() > 0 && i%3 > 0 {
			x.put(mixed(i))
		}
		if len(l) < 3 {
			x.put(mixed(i))
		}
		was := slices.Clone(x.p.was)
		for _, o := range x.commit() {
			if o.at > 1 && was[o.at] > 0 {
				t.Fatal(i, o.at)
			}
		}
		if len(x.committed()) == 0 {
			x.put(mixed(i))
			x.commit()
		}
	}
}

// step lets one thing happen, right or wrong.
func (x *set) step(rnd *rand.Rand) {
	n := len(x.p.now)
	at := rnd.Intn(n+4) - 2
	data := mixed(rnd.Intn(255))
	if rnd.Intn(12) == 0 {
		data = data[:rnd.Intn(128)]
	}
	switch rnd.Intn(20) {
	case 0, 1, 2, 3:
		x.put(data)
	case 4, 5:
		x.over(at, data)
	case 6, 7:
		x.up(at)
	case 8, 9, 10, 11, 12:
		x.down(at)
	case 13:
		x.root(rnd.Intn(10)-1, at)
	case 14:
		x.mark(rnd.Intn(10)-1, rnd.Uint64())
	case 15:
		x.back()
	case 16:
		x.again()
	case 17:
		x.crashOnce(rnd)
	default:
		x.commit()
	}
	x.tells()
}

// P11.1 to P11.7, R2: whatever is done, in whatever order, beside the words.
func TestByChance(t *testing.T) {
	for seed := range int64(200) {
		rnd := rand.New(rand.NewSource(seed))
		x := start(t, []int{16, 16, 17, 20, 61, 62, 63, 122, 123}[rnd.Intn(9)])
		for range 150 {
			x.step(rnd)
		}
	}
}
