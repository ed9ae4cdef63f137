package disk_test

import (
	"bytes"
	"fmt"
	"math"
	"slices"
	"testing"

	"catchment/api"
	"catchment/disk"
)

// of answers a block of one byte.
func of(b byte) []byte {
	return bytes.Repeat([]byte{b}, api.Block)
}

// mixed answers a block of which no two bytes are alike, and none is a nought; those of other seeds differ from it everywhere.
func mixed(seed int) []byte {
	b := make([]byte, api.Block)
	for i := range b {
		b[i] = byte((i+seed)%255 + 1)
	}
	return b
}

// blank answers a new disk.
func blank(t *testing.T, n int) *disk.Disk {
	t.Helper()
	d, e := disk.New(n)
	if e != api.OK || d == nil {
		t.Fatalf("New(%d): %v", n, e)
	}
	return d
}

// write writes, and must be let.
func write(t *testing.T, d *disk.Disk, at int, b []byte) {
	t.Helper()
	if e := d.Write(at, b); e != api.OK {
		t.Fatalf("Write(%d): %v", at, e)
	}
}

// flush flushes, and must be let.
func flush(t *testing.T, d *disk.Disk) {
	t.Helper()
	if e := d.Flush(); e != api.OK {
		t.Fatalf("Flush: %v", e)
	}
}

// crash crashes, and must be let.
func crash(t *testing.T, d *disk.Disk, c api.Crash) {
	t.Helper()
	if e := d.Crash(c); e != api.OK {
		t.Fatalf("Crash(%v): %v", c, e)
	}
}

// arm arms, and must be let.
func arm(t *testing.T, d *disk.Disk, n int) {
	t.Helper()
	if e := d.Arm(n); e != api.OK {
		t.Fatalf("Arm(%d): %v", n, e)
	}
}

// says holds what a block says against what it should say.
func says(t *testing.T, d *disk.Disk, at int, want []byte) {
	t.Helper()
	if b, e := d.Read(at); e != api.OK || !bytes.Equal(b, want) {
		t.Errorf("Read(%d): %v %v, not %v", at, b, e, want)
	}
}

// cached holds the places that wait against what they should be.
func cached(t *testing.T, d *disk.Disk, want ...int) {
	t.Helper()
	if l := d.Cached(); !slices.Equal(l, want) {
		t.Errorf("Cached: %v, not %v", l, want)
	}
}

// nothing is a crash that keeps nothing.
func nothing() api.Crash { return api.Crash{Torn: -1} }

// keeps answers a crash that keeps those of n writes for which a bit is set.
func keeps(n int, bits uint) api.Crash {
	c := nothing()
	for i := 0; i < n; i++ {
		c.Keep = append(c.Keep, bits>>i&1 == 1)
	}
	return c
}

// whole tells all that later calls could tell of a disk: what its blocks say, what stands on them, what each write has, how far it is armed.
func whole(t *testing.T, d *disk.Disk) string {
	t.Helper()
	l := d.Cached()
	out := fmt.Sprint(d.Len(), d.Down(), l)
	for at := 0; at < d.Len() && !d.Down(); at++ {
		b, e := d.Read(at)
		out += fmt.Sprint(";", b, e)
	}
	c := d.Copy()
	crash(t, c, nothing())
	for at := 0; at < c.Len(); at++ {
		b, e := c.Read(at)
		out += fmt.Sprint(";", b, e)
	}
	for i := range l {
		c, one := d.Copy(), nothing()
		one.Keep = make([]bool, i+1)
		one.Keep[i] = true
		crash(t, c, one)
		b, e := c.Read(l[i])
		out += fmt.Sprint(";", b, e)
	}
	return out + fmt.Sprint(";", left(d))
}

// left tells how many writes and flushes are done yet, if they are less than 20.
func left(d *disk.Disk) int {
	c, n := d.Copy(), 0
	for n < 20 && c.Flush() == api.OK {
		n++
	}
	return n
}

// busy answers a disk on which things stand, and for which others wait.
func busy(t *testing.T) *disk.Disk {
	t.Helper()
	d := blank(t, 16)
	write(t, d, 3, mixed(1))
	write(t, d, 0, mixed(2))
	flush(t, d)
	write(t, d, 3, mixed(3))
	write(t, d, 15, mixed(4))
	write(t, d, 3, mixed(5))
	return d
}

// P2.1 to P2.4: what the chapter's examples say.
func TestExamples(t *testing.T) {
	d := blank(t, 16)
	write(t, d, 3, of(1))
	says(t, d, 3, of(1))
	cached(t, d, 3)
	crash(t, d, nothing())
	says(t, d, 3, of(0))

	write(t, d, 3, of(1))
	flush(t, d)
	write(t, d, 3, of(2))
	crash(t, d, api.Crash{Torn: 0, Cut: 2})
	says(t, d, 3, append([]byte{2, 2}, of(1)[2:]...))

	arm(t, d, 1)
	write(t, d, 5, of(7))
	if e := d.Flush(); e != api.ErrDown {
		t.Error(e)
	}
	if b, e := d.Read(5); b != nil || e != api.ErrDown || !d.Down() {
		t.Error(b, e, d.Down())
	}
	crash(t, d, keeps(1, 1))
	says(t, d, 5, of(7))

	if e := d.Write(16, of(1)); e != api.ErrArg {
		t.Error(e)
	}
	if e := d.Write(3, of(1)[:127]); e != api.ErrArg {
		t.Error(e)
	}
	if e := d.Arm(-1); e != api.ErrArg {
		t.Error(e)
	}
	if d, e := disk.New(15); d != nil || e != api.ErrArg {
		t.Error(d, e)
	}
}

// P2.1: sizes that may be, and what a new disk is.
func TestNewDisks(t *testing.T) {
	for _, n := range []int{16, 17, 128, 4095, 4096} {
		d := blank(t, n)
		if d.Len() != n || d.Down() || len(d.Cached()) != 0 {
			t.Error(n, d.Len(), d.Down(), d.Cached())
		}
		for at := 0; at < n; at++ {
			says(t, d, at, of(0))
		}
		for i := 0; i < 100; i++ { // it is not armed
			write(t, d, n-1, of(1))
			flush(t, d)
		}
	}
}

// P2.1: sizes that may not be.
func TestSizesThatAreRefused(t *testing.T) {
	for _, n := range []int{15, 4097, 0, 1, -1, -15, -16, -4096, 8192, 1 << 16, 1<<32 + 16, 1<<33 + 4096, math.MinInt, math.MinInt + 16, math.MaxInt} {
		if d, e := disk.New(n); d != nil || e != api.ErrArg {
			t.Error(n, d, e)
		}
	}
}

// P2.2: the first and the last places are blocks, those beside them are none.
func TestPlaces(t *testing.T) {
	for _, n := range []int{16, 17, 4096} {
		d := blank(t, n)
		for i, at := range []int{0, 1, n - 2, n - 1} {
			write(t, d, at, mixed(i))
			says(t, d, at, mixed(i))
		}
		for _, at := range []int{-1, n, n + 1, -n, 4097, 1 << 32, 1<<32 + 1, math.MinInt, math.MaxInt} {
			if b, e := d.Read(at); b != nil || e != api.ErrArg {
				t.Errorf("Read(%d) of %d: %v %v", at, n, b, e)
			}
			if e := d.Write(at, mixed(9)); e != api.ErrArg {
				t.Errorf("Write(%d) of %d: %v", at, n, e)
			}
		}
		cached(t, d, 0, 1, n-2, n-1)
		for i, at := range []int{0, 1, n - 2, n - 1} {
			says(t, d, at, mixed(i))
		}
		for at := 2; at < n-2; at++ {
			says(t, d, at, of(0))
		}
	}
}

// P2.2: what is shorter or longer than a block is not written.
func TestLengths(t *testing.T) {
	d := busy(t)
	was := whole(t, d)
	for _, b := range [][]byte{nil, {}, {1}, make([]byte, 127), make([]byte, 129), make([]byte, 256), make([]byte, 127, 128), append(of(0), of(0)...)} {
		if e := d.Write(3, b); e != api.ErrArg {
			t.Errorf("Write of %d bytes: %v", len(b), e)
		}
		if e := d.Write(16, b); e != api.ErrArg {
			t.Errorf("Write of %d bytes at 16: %v", len(b), e)
		}
	}
	if now := whole(t, d); now != was {
		t.Error("what was refused changed the disk")
	}
	write(t, d, 3, make([]byte, 129)[:128])
	says(t, d, 3, of(0))
}

// P2.2: a block says what its last write says; all of them wait, in order, and are carried out in order.
func TestSeveralWritesOfOneBlock(t *testing.T) {
	d := blank(t, 16)
	var want []int
	for i := 1; i <= 40; i++ {
		at := i * i % 7
		write(t, d, at, mixed(i))
		want = append(want, at)
		says(t, d, at, mixed(i))
		cached(t, d, want...)
	}
	last := map[int]int{}
	for i, at := range want {
		last[at] = i + 1
	}
	for range 2 { // ahead of the flush, and behind it
		for at, i := range last {
			says(t, d, at, mixed(i))
		}
		says(t, d, 9, of(0))
		flush(t, d)
		cached(t, d)
	}
}

// P2.2: what is flushed stands there, and waits no more.
func TestFlush(t *testing.T) {
	d := busy(t)
	flush(t, d)
	cached(t, d)
	crash(t, d, keeps(9, 1<<9-1))
	for at := 0; at < 16; at++ {
		want := of(0)
		switch at {
		case 0:
			want = mixed(2)
		case 3:
			want = mixed(5)
		case 15:
			want = mixed(4)
		}
		says(t, d, at, want)
	}
	was := whole(t, d)
	flush(t, d)
	if whole(t, d) != was {
		t.Error("a flush of nothing changed the disk")
	}
}

// P2.2: numbers of writes begin anew behind a flush.
func TestNumbersBeginAnew(t *testing.T) {
	d := busy(t)
	flush(t, d)
	write(t, d, 7, mixed(6))
	write(t, d, 8, mixed(7))
	crash(t, d, keeps(2, 2))
	says(t, d, 7, of(0))
	says(t, d, 8, mixed(7))
}

// P2.2, R2: a read changes nothing, whether it is answered or not.
func TestReadChangesNothing(t *testing.T) {
	d := busy(t)
	was := whole(t, d)
	for at := -2; at < 20; at++ {
		d.Read(at)
	}
	if whole(t, d) != was {
		t.Error("a read changed the disk")
	}
}

// P2.3: armed with n, n writes and flushes are done, in whatever order, and the next one is not.
func TestArm(t *testing.T) {
	for n := 0; n <= 5; n++ {
		for bits := 0; bits < 1<<(n+1); bits++ {
			d := busy(t)
			arm(t, d, n)
			for i := 0; i <= n; i++ {
				want := api.OK
				if i == n {
					want = api.ErrDown
				}
				if d.Down() {
					t.Fatalf("Arm(%d): down ahead of operation %d", n, i)
				}
				var e api.Errno
				if bits>>i&1 == 1 {
					e = d.Write(i, mixed(i))
				} else {
					e = d.Flush()
				}
				if e != want {
					t.Fatalf("Arm(%d), operation %d: %v, not %v", n, i, e, want)
				}
			}
			if !d.Down() {
				t.Fatalf("Arm(%d): not down", n)
			}
		}
	}
}

// P2.3: numbers below 0 are refused, and change nothing, not what it is armed with either.
func TestArmBelowNought(t *testing.T) {
	for _, n := range []int{-1, -2, math.MinInt} {
		d := busy(t)
		was := whole(t, d)
		if e := d.Arm(n); e != api.ErrArg || whole(t, d) != was || d.Down() {
			t.Errorf("Arm(%d): %v", n, e)
		}
		arm(t, d, 2)
		was = whole(t, d)
		if e := d.Arm(n); e != api.ErrArg || whole(t, d) != was || left(d) != 2 {
			t.Errorf("Arm(%d), armed: %v", n, e)
		}
	}
}

// P2.3: what it is armed with last counts, be it more or less.
func TestArmAnew(t *testing.T) {
	d := busy(t)
	for _, n := range []int{0, 5, 1, 0, 3, 3, 0, 1, 2} {
		arm(t, d, n)
		if d.Down() || left(d) != n {
			t.Errorf("Arm(%d): %d left", n, left(d))
		}
	}
	flush(t, d)
	arm(t, d, 2)
	if left(d) != 2 {
		t.Errorf("armed anew: %d left", left(d))
	}
	arm(t, d, math.MaxInt)
	for i := 0; i < 100; i++ {
		flush(t, d)
	}
	if d.Down() {
		t.Error("down too early")
	}
}

// P2.3: a write that meets an armed 0 is not done, and takes the power with it; what waits stays.
func TestWriteThatMeetsAnArmedNought(t *testing.T) {
	d := busy(t)
	arm(t, d, 0)
	if d.Down() {
		t.Error("down, though nothing met the 0")
	}
	says(t, d, 3, mixed(5))
	if e := d.Write(1, mixed(8)); e != api.ErrDown || !d.Down() {
		t.Fatal(e, d.Down())
	}
	cached(t, d, 3, 15, 3)
	crash(t, d, keeps(9, 1<<9-1))
	says(t, d, 1, of(0))
	says(t, d, 3, mixed(5))
	says(t, d, 15, mixed(4))
}

// P2.3: a flush that meets an armed 0 carries nothing out.
func TestFlushThatMeetsAnArmedNought(t *testing.T) {
	d := busy(t)
	arm(t, d, 0)
	if e := d.Flush(); e != api.ErrDown || !d.Down() {
		t.Fatal(e, d.Down())
	}
	cached(t, d, 3, 15, 3)
	crash(t, d, nothing())
	says(t, d, 0, mixed(2))
	says(t, d, 3, mixed(1))
	says(t, d, 15, of(0))

	arm(t, d, 0)
	if e := d.Flush(); e != api.ErrDown || !d.Down() {
		t.Error("a flush of nothing meets it, too", e, d.Down())
	}
}

// P2.3: what could not be done otherwise, either, and what is neither a write nor a flush, does not count.
func TestWhatDoesNotCount(t *testing.T) {
	for n := 0; n < 3; n++ {
		d := busy(t)
		arm(t, d, n)
		was := whole(t, d)
		for _, e := range []api.Errno{d.Write(-1, of(1)), d.Write(16, of(1)), d.Write(3, of(1)[:127]), d.Write(3, append(of(1), 1)), d.Write(3, nil), d.Arm(-1), d.Crash(api.Crash{Cut: 129}), d.Crash(api.Crash{Cut: -1})} {
			if e != api.ErrArg {
				t.Errorf("armed with %d: %v", n, e)
			}
		}
		for at := -1; at <= 16; at++ {
			d.Read(at)
		}
		d.Cached()
		d.Len()
		d.Copy().Flush()
		if d.Down() || left(d) != n || whole(t, d) != was {
			t.Errorf("armed with %d, %d are left", n, left(d))
		}
	}
}

// P2.2, P2.3: with the power gone nothing is done, and that counts ahead of ErrArg; what waits is told still.
func TestThePowerIsGone(t *testing.T) {
	d := busy(t)
	arm(t, d, 0)
	d.Flush()
	was := whole(t, d)
	for range 3 {
		for _, at := range []int{3, 0, 15, -1, 16, math.MinInt, math.MaxInt} {
			if b, e := d.Read(at); b != nil || e != api.ErrDown {
				t.Error(at, b, e)
			}
			for _, b := range [][]byte{of(1), of(1)[:127], append(of(1), 1), nil} {
				if e := d.Write(at, b); e != api.ErrDown {
					t.Error(at, len(b), e)
				}
			}
		}
		for _, n := range []int{0, 1, 100, -1, math.MinInt} {
			if e := d.Arm(n); e != api.ErrDown {
				t.Error(n, e)
			}
		}
		if e := d.Flush(); e != api.ErrDown {
			t.Error(e)
		}
		if !d.Down() || d.Len() != 16 {
			t.Error(d.Down(), d.Len())
		}
		cached(t, d, 3, 15, 3)
	}
	if whole(t, d) != was {
		t.Error("what was refused changed the disk")
	}
}

// P2.4: cuts that are none are refused, whatever is torn, and change nothing, with the power on or gone.
func TestCutsThatAreRefused(t *testing.T) {
	on, gone := busy(t), busy(t)
	arm(t, on, 4)
	arm(t, gone, 0)
	gone.Flush()
	for _, d := range []*disk.Disk{on, gone} {
		was := whole(t, d)
		for _, cut := range []int{-1, 129, -128, 256, 1 << 32, 1<<32 + 1, math.MinInt, math.MaxInt} {
			for _, torn := range []int{-1, 0, 2, 3, 99} {
				if e := d.Crash(api.Crash{Keep: []bool{true, true, true}, Torn: torn, Cut: cut}); e != api.ErrArg {
					t.Errorf("Crash(torn %d, cut %d): %v", torn, cut, e)
				}
			}
		}
		if whole(t, d) != was {
			t.Error("what was refused changed the disk")
		}
	}
}

// P2.4: the torn write comes through as far as it is cut, whatever its flag says; the others as theirs say.
func TestCutsOfATornWrite(t *testing.T) {
	for _, cut := range []int{0, 1, 2, 64, 127, 128} {
		for torn := 0; torn < 3; torn++ {
			for bits := uint(0); bits < 8; bits++ {
				d, c := busy(t), keeps(3, bits)
				c.Torn, c.Cut = torn, cut
				crash(t, d, c)
				stands := map[int][]byte{3: mixed(1), 15: of(0)}
				for i, at := range []int{3, 15, 3} {
					switch {
					case i == torn:
						stands[at] = append(mixed(3 + i)[:cut:cut], stands[at][cut:]...)
					case bits>>i&1 == 1:
						stands[at] = mixed(3 + i)
					}
				}
				says(t, d, 3, stands[3])
				says(t, d, 15, stands[15])
				says(t, d, 0, mixed(2))
				says(t, d, 1, of(0))
				cached(t, d)
			}
		}
	}
}

// P2.4: behind what is cut stays what an earlier write of that crash left there, not what stood there ahead of it.
func TestTornBehindAWriteOfThatBlock(t *testing.T) {
	for _, x := range []struct {
		keep []bool
		torn int
		want []byte
	}{
		{[]bool{true, true, true}, 2, append(of(3)[:64:64], of(2)[64:]...)},
		{[]bool{true, false, true}, 2, append(of(3)[:64:64], of(1)[64:]...)},
		{[]bool{false, false, false}, 2, append(of(3)[:64:64], of(9)[64:]...)},
		{[]bool{true, true, true}, 1, of(3)},
		{[]bool{true, true, false}, 1, append(of(2)[:64:64], of(1)[64:]...)},
		{[]bool{true, true, false}, 0, of(2)},
		{[]bool{true, false, false}, 0, append(of(1)[:64:64], of(9)[64:]...)},
	} {
		d := blank(t, 16)
		write(t, d, 4, of(9))
		flush(t, d)
		for i := 1; i <= 3; i++ {
			write(t, d, 4, of(byte(i)))
		}
		crash(t, d, api.Crash{Keep: x.keep, Torn: x.torn, Cut: 64})
		says(t, d, 4, x.want)
	}
}

// P2.4: numbers of no write tear nothing, however they are cut.
func TestTornNumbersOfNoWrite(t *testing.T) {
	for _, torn := range []int{-1, -2, 3, 4, 99, 1 << 32, math.MinInt, math.MaxInt} {
		for _, cut := range []int{0, 1, 128} {
			d, c := busy(t), keeps(3, 6)
			c.Torn, c.Cut = torn, cut
			crash(t, d, c)
			says(t, d, 3, mixed(5))
			says(t, d, 15, mixed(4))
			d, c = busy(t), keeps(3, 1)
			c.Torn, c.Cut = torn, cut
			crash(t, d, c)
			says(t, d, 3, mixed(3))
			says(t, d, 15, of(0))
		}
	}
}

// P2.4: writes that have no flag are lost; flags that have no write do nothing; no flags at all are an empty list of them.
func TestKeepsThatAreShorterAndLonger(t *testing.T) {
	for _, x := range []struct {
		keep       []bool
		three, end []byte
	}{
		{nil, mixed(1), of(0)},
		{[]bool{}, mixed(1), of(0)},
		{[]bool{true}, mixed(3), of(0)},
		{[]bool{false, true}, mixed(1), mixed(4)},
		{[]bool{true, true}, mixed(3), mixed(4)},
		{[]bool{false, false, true}, mixed(5), of(0)},
		{[]bool{false, false, false, true, true}, mixed(1), of(0)},
		{append(make([]bool, 1000), true), mixed(1), of(0)},
		{slices.Repeat([]bool{true}, 1000), mixed(5), mixed(4)},
	} {
		d := busy(t)
		crash(t, d, api.Crash{Keep: x.keep, Torn: -1})
		says(t, d, 3, x.three)
		says(t, d, 15, x.end)
		says(t, d, 0, mixed(2))
		cached(t, d)
	}
	d := busy(t) // the room behind a list's end holds no flags
	crash(t, d, api.Crash{Keep: slices.Repeat([]bool{true}, 8)[:1], Torn: -1})
	says(t, d, 3, mixed(3))
	says(t, d, 15, of(0))
}

// P2.4: behind a crash the power is on, and not armed, be it that it was gone, or armed, or neither.
func TestThePowerBehindACrash(t *testing.T) {
	gone, armed, on := busy(t), busy(t), busy(t)
	arm(t, gone, 0)
	gone.Flush()
	arm(t, armed, 0)
	for _, d := range []*disk.Disk{gone, armed, on} {
		crash(t, d, nothing())
		if d.Down() || left(d) != 20 || d.Len() != 16 {
			t.Error(d.Down(), left(d), d.Len())
		}
		cached(t, d)
		says(t, d, 3, mixed(1))
		write(t, d, 3, mixed(9))
		says(t, d, 3, mixed(9))
		cached(t, d, 3)
		arm(t, d, 1)
		flush(t, d)
		if e := d.Write(3, mixed(8)); e != api.ErrDown || !d.Down() {
			t.Error(e, d.Down())
		}
		crash(t, d, nothing())
		says(t, d, 3, mixed(9))
	}
}

// P2.4: a crash of a disk for which nothing waits changes no block.
func TestCrashOfAnEmptyCache(t *testing.T) {
	d := busy(t)
	flush(t, d)
	was := whole(t, d)
	for _, c := range []api.Crash{{}, {Keep: []bool{true}}, {Keep: []bool{true}, Cut: 128}, {Torn: -1, Cut: 64}} {
		crash(t, d, c)
		if whole(t, d) != was {
			t.Errorf("Crash(%v) changed the disk", c)
		}
	}
}

// P2.5: behind any crash, what was flushed and not written since is there, and each other byte is one that stood there, or that a write of that block had there.
func TestAnyCrash(t *testing.T) {
	places := []int{3, 15, 3, 7, 3}
	for bits := uint(0); bits < 1<<len(places); bits++ {
		for torn := -1; torn <= len(places); torn++ {
			for _, cut := range []int{0, 1, 63, 127, 128} {
				d := blank(t, 16)
				for at := 0; at < 16; at++ {
					write(t, d, at, mixed(100+at))
				}
				flush(t, d)
				may := map[int][][]byte{}
				for at := 0; at < 16; at++ {
					may[at] = [][]byte{mixed(100 + at)}
				}
				for i, at := range places {
					write(t, d, at, mixed(i))
					may[at] = append(may[at], mixed(i))
				}
				c := keeps(len(places), bits)
				c.Torn, c.Cut = torn, cut
				crash(t, d, c)
				for at := 0; at < 16; at++ {
					b, e := d.Read(at)
					if e != api.OK || len(b) != api.Block {
						t.Fatal(at, b, e)
					}
					for i := range b {
						if !slices.ContainsFunc(may[at], func(m []byte) bool { return m[i] == b[i] }) {
							t.Fatalf("Crash(%v): byte %d of block %d is %d, which nobody wrote", c, i, at, b[i])
						}
					}
				}
			}
		}
	}
}

// P2.1: a copy is the same disk, with the power on, armed or gone; and what is done to either is not done to the other.
func TestCopy(t *testing.T) {
	on, armed, gone := busy(t), busy(t), busy(t)
	arm(t, armed, 3)
	arm(t, gone, 0)
	gone.Flush()
	for _, d := range []*disk.Disk{on, armed, gone, blank(t, 40)} {
		was := whole(t, d)
		c := d.Copy()
		if c == d || whole(t, c) != was || whole(t, c.Copy()) != was {
			t.Fatal("a copy is another disk")
		}
		for _, x := range [][2]*disk.Disk{{c, d}, {d.Copy(), d.Copy()}, {d, d.Copy()}} {
			alter(t, x[0])
			if whole(t, x[1]) != was {
				t.Error("what was done to one was done to the other")
			}
		}
	}
}

// alter changes all of a disk that calls can change.
func alter(t *testing.T, d *disk.Disk) {
	t.Helper()
	d.Write(3, mixed(50))
	d.Flush()
	crash(t, d, keeps(9, 1<<9-1))
	for at := 0; at < d.Len(); at++ {
		write(t, d, at, mixed(at+60))
	}
	flush(t, d)
	write(t, d, 3, mixed(51))
	arm(t, d, 0)
	d.Flush()
}

// P2.1: two writes that wait behind one copy do not stand in the same room.
func TestCopiesThatAreWrittenBoth(t *testing.T) {
	for n := 0; n < 20; n++ {
		d := blank(t, 16)
		for i := 0; i < n; i++ {
			write(t, d, 1, mixed(i))
		}
		c := d.Copy()
		write(t, d, 2, mixed(100))
		write(t, c, 4, mixed(101))
		says(t, d, 2, mixed(100))
		says(t, d, 4, of(0))
		says(t, c, 4, mixed(101))
		says(t, c, 2, of(0))
		cached(t, d, append(slices.Repeat([]int{1}, n), 2)...)
		cached(t, c, append(slices.Repeat([]int{1}, n), 4)...)
	}
}

// R5: of no disk, and of one that neither New nor Copy answered, nothing is told, whatever is asked.
func TestNoDisk(t *testing.T) {
	real := busy(t)
	was := whole(t, real)
	byValue := *real
	for _, d := range []*disk.Disk{nil, {}, new(disk.Disk), &byValue} {
		if d.Len() != 0 || d.Copy() != nil || len(d.Cached()) != 0 || d.Down() {
			t.Error(d.Len(), d.Copy(), d.Cached(), d.Down())
		}
		for _, at := range []int{0, 3, -1, 16, math.MinInt, math.MaxInt} {
			if b, e := d.Read(at); b != nil || e != api.ErrNil {
				t.Error(b, e)
			}
			for _, b := range [][]byte{of(1), of(1)[:127], nil} {
				if e := d.Write(at, b); e != api.ErrNil {
					t.Error(e)
				}
			}
			if e := d.Arm(at); e != api.ErrNil {
				t.Error(e)
			}
			if e := d.Crash(api.Crash{Keep: []bool{true}, Torn: at, Cut: at}); e != api.ErrNil {
				t.Error(e)
			}
			if e := d.Flush(); e != api.ErrNil {
				t.Error(e)
			}
		}
		if d.Len() != 0 || d.Copy() != nil || len(d.Cached()) != 0 || d.Down() {
			t.Error("no disk became one")
		}
	}
	if whole(t, real) != was {
		t.Error("what was asked of a disk's value changed the disk")
	}
}

// R3: what is handed in is neither changed nor kept, its spare room neither.
func TestWhatIsHandedIn(t *testing.T) {
	d := blank(t, 16)
	long := append(mixed(1), mixed(2)...)
	was := bytes.Clone(long)
	write(t, d, 3, long[:128])
	d.Read(3)
	flush(t, d)
	write(t, d, 3, long[:128])
	if !bytes.Equal(long, was) {
		t.Error("Write changed what was handed in")
	}
	clear(long)
	says(t, d, 3, mixed(1))
	crash(t, d, nothing())
	says(t, d, 3, mixed(1))

	write(t, d, 3, mixed(4))
	write(t, d, 4, mixed(5))
	keep := []bool{true, false, true, false, true}
	crash(t, d, api.Crash{Keep: keep[:2], Torn: -1})
	if !slices.Equal(keep, []bool{true, false, true, false, true}) {
		t.Error("Crash changed what was handed in")
	}
	for i := range keep {
		keep[i] = true
	}
	says(t, d, 3, mixed(4))
	says(t, d, 4, of(0))
}

// R3: what is handed out shares no memory with the disk, nor with another answer.
func TestWhatIsHandedOut(t *testing.T) {
	d := busy(t)
	was := whole(t, d)
	for _, at := range []int{0, 3, 15, 1} { // flushed, written since, waiting alone, neither
		one, _ := d.Read(at)
		two, _ := d.Read(at)
		want := bytes.Clone(two)
		clear(one[:cap(one)])
		one[0]++
		if !bytes.Equal(two, want) {
			t.Errorf("two answers of block %d share memory", at)
		}
	}
	l, m := d.Cached(), d.Cached()
	l = l[:cap(l)]
	for i := range l {
		l[i] = -1
	}
	if !slices.Equal(m, []int{3, 15, 3}) {
		t.Error("two answers of Cached share memory")
	}
	if whole(t, d) != was {
		t.Error("an answer shares memory with the disk")
	}
	b, _ := d.Read(3)
	write(t, d, 3, mixed(30))
	flush(t, d)
	if !bytes.Equal(b, mixed(5)) || !slices.Equal(m, []int{3, 15, 3}) {
		t.Error("a later write changed an answer")
	}
}

// plain is a disk as plainly as may be told, to hold the other one against.
type plain struct {
	stands []string
	places []int
	waits  []string
	left   int // below 0: not armed
	down   bool
}

func (p *plain) read(at int) (string, api.Errno) {
	if p.down {
		return "", api.ErrDown
	}
	if at < 0 || at >= len(p.stands) {
		return "", api.ErrArg
	}
	out := p.stands[at]
	for i, w := range p.waits {
		if p.places[i] == at {
			out = w
		}
	}
	return out, api.OK
}

func (p *plain) meet() bool {
	p.down = p.left == 0
	p.left = max(p.left-1, -1)
	return p.down
}

func (p *plain) write(at int, b string) api.Errno {
	if p.down {
		return api.ErrDown
	}
	if at < 0 || at >= len(p.stands) || len(b) != 128 {
		return api.ErrArg
	}
	if p.meet() {
		return api.ErrDown
	}
	p.places, p.waits = append(p.places, at), append(p.waits, b)
	return api.OK
}

func (p *plain) flush() api.Errno {
	if p.down || p.meet() {
		return api.ErrDown
	}
	for i, w := range p.waits {
		p.stands[p.places[i]] = w
	}
	p.places, p.waits = nil, nil
	return api.OK
}

func (p *plain) arm(n int) api.Errno {
	if p.down {
		return api.ErrDown
	}
	if n < 0 {
		return api.ErrArg
	}
	p.left = n
	return api.OK
}

func (p *plain) crash(c api.Crash) api.Errno {
	if c.Cut < 0 || c.Cut > 128 {
		return api.ErrArg
	}
	for i, w := range p.waits {
		at := p.places[i]
		if i == c.Torn {
			p.stands[at] = w[:c.Cut] + p.stands[at][c.Cut:]
		} else if i < len(c.Keep) && c.Keep[i] {
			p.stands[at] = w
		}
	}
	p.places, p.waits, p.left, p.down = nil, nil, -1, false
	return api.OK
}

// P2.1 to P2.5, R4: many calls of all kinds, right and wrong ones, are answered as they are of the plain disk.
func TestAgainstAPlainDisk(t *testing.T) {
	for seed := uint64(1); seed <= 60; seed++ {
		state := seed * 0x9e3779b97f4a7c15
		pick := func(n int) int {
			state = state*6364136223846793005 + 1442695040888963407
			return int(state >> 33 % uint64(n))
		}
		n := 16 + pick(3)
		d, p := blank(t, n), &plain{left: -1, stands: slices.Repeat([]string{string(of(0))}, n)}
		for step := 0; step < 800; step++ {
			var e, want api.Errno
			var got, told string
			at := pick(n+2) - 1
			switch what := pick(20); {
			case what < 9:
				long := 128
				if pick(12) == 0 {
					long += pick(3) - 1
				}
				b := make([]byte, long)
				for i := range b {
					b[i] = byte(pick(256))
				}
				e, want = d.Write(at, b), p.write(at, string(b))
			case what < 13:
				var b []byte
				b, e = d.Read(at)
				got = string(b)
				told, want = p.read(at)
			case what < 15:
				e, want = d.Flush(), p.flush()
			case what < 16:
				k := pick(9) - 1
				e, want = d.Arm(k), p.arm(k)
			case what < 18:
				c := api.Crash{Torn: pick(9) - 2, Cut: pick(134) - 2}
				for range pick(9) {
					c.Keep = append(c.Keep, pick(2) == 1)
				}
				e, want = d.Crash(c), p.crash(c)
			default:
				d = d.Copy()
			}
			if e != want || got != told || d.Down() != p.down || d.Len() != n || !slices.Equal(d.Cached(), p.places) {
				t.Fatalf("seed %d, step %d: %v, not %v; %q, not %q; %v %v %v", seed, step, e, want, got, told, d.Down(), d.Len(), d.Cached())
			}
			for at := 0; at < n && !d.Down(); at++ {
				b, _ := d.Read(at)
				if want, _ := p.read(at); string(b) != want {
					t.Fatalf("seed %d, step %d: block %d", seed, step, at)
				}
			}
		}
	}
}
