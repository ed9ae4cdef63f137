package table_test

import (
	"bytes"
	"encoding/binary"
	"fmt"
	"math"
	"math/rand"
	"slices"
	"testing"

	"catchment/api"
	"catchment/table"
)

const greatest = uint64(math.MaxUint64) // the greatest fingerprint

// edges are fingerprints that stand at an edge, and ordinary ones.
var edges = []uint64{0, 1, 2, 255, 256, 1<<32 - 1, 1 << 32, 1<<63 - 1, 1 << 63, greatest - 1, greatest}

// of answers a block of one byte.
func of(b byte) []byte {
	return bytes.Repeat([]byte{b}, api.Block)
}

// numbered answers a block that only its number has: it stands in the last bytes, or in the first ones, as the number is even or odd.
func numbered(n int) []byte {
	b := of(7)
	at := 0
	if n%2 == 0 {
		at = api.Block - 4
	}
	binary.BigEndian.PutUint32(b[at:], uint32(n)+1<<31)
	return b
}

// changed answers a block with one of its bytes changed.
func changed(b []byte, at int) []byte {
	b = bytes.Clone(b)
	b[at] ^= 1
	return b
}

// pair answers a pair.
func pair(b []byte, print uint64) api.Pair {
	return api.Pair{Bytes: b, Print: print}
}

// pairs answers n pairs of numbered blocks, their fingerprints as many apart from that one on, wrapped round.
func pairs(n int, from, by uint64) []api.Pair {
	var l []api.Pair
	for i := range n {
		l = append(l, pair(numbered(i), from+uint64(i)*by))
	}
	return l
}

// cloned answers the same pairs in memory of their own.
func cloned(l []api.Pair) []api.Pair {
	out := slices.Clone(l)
	for i := range out {
		out[i].Bytes = bytes.Clone(out[i].Bytes)
	}
	return out
}

// made makes a table, and must be let.
func made(t *testing.T, l []api.Pair, rest uint64) *table.Table {
	t.Helper()
	x, e := table.New(l, rest)
	if e != api.OK || x == nil {
		t.Fatalf("New of %d pairs: %v %v", len(l), x, e)
	}
	return x
}

// barred holds that there is no table of these pairs, and why.
func barred(t *testing.T, l []api.Pair, rest uint64, want api.Errno, what ...any) {
	t.Helper()
	if x, e := table.New(l, rest); e != want || x != nil {
		t.Errorf("%s: %v %v, not %v", fmt.Sprint(what...), x, e, want)
	}
}

// prints holds a block's fingerprint against what it should be.
func prints(t *testing.T, x *table.Table, b []byte, want uint64) {
	t.Helper()
	if n, e := x.Print(b); e != api.OK || n != want {
		t.Errorf("Print(%v): %v %v, not %v", b, n, e, want)
	}
}

// tells holds all that a table tells against what its pairs and its rest say.
func tells(t *testing.T, x *table.Table, l []api.Pair, rest uint64) {
	t.Helper()
	if x.Len() != len(l) || x.Unlike() != unlike(l, rest) {
		t.Errorf("%d pairs: Len %d, Unlike %v", len(l), x.Len(), x.Unlike())
	}
	for _, p := range l {
		prints(t, x, p.Bytes, p.Print)
		for _, at := range []int{0, 1, 63, 64, 126, 127} {
			b := changed(p.Bytes, at)
			prints(t, x, b, told(l, rest, b))
		}
	}
	prints(t, x, of(200), told(l, rest, of(200)))
}

// told is what the words say of a block's fingerprint, by no map.
func told(l []api.Pair, rest uint64, b []byte) uint64 {
	for _, p := range l {
		if bytes.Equal(p.Bytes, b) {
			return p.Print
		}
	}
	return rest
}

// unlike is what the words say of pairs and a rest: fingerprint by fingerprint.
func unlike(l []api.Pair, rest uint64) bool {
	for i, p := range l {
		if p.Print == rest {
			return false
		}
		for _, q := range l[:i] {
			if p.Print == q.Print {
				return false
			}
		}
	}
	return true
}

// right is what the words say of New's pairs.
func right(l []api.Pair) api.Errno {
	if len(l) > 1000 {
		return api.ErrLong
	}
	for i, p := range l {
		if len(p.Bytes) != 128 {
			return api.ErrTable
		}
		for _, q := range l[:i] {
			if bytes.Equal(p.Bytes, q.Bytes) {
				return api.ErrTable
			}
		}
	}
	return api.OK
}

// P7.1, P7.2: the examples.
func TestExamples(t *testing.T) {
	x := made(t, []api.Pair{pair(of(1), 5)}, 9)
	prints(t, x, of(1), 5)
	prints(t, x, of(2), 9)
	if n, e := x.Print(of(1)[:127]); n != 0 || e != api.ErrArg {
		t.Error(n, e)
	}
	if x.Len() != 1 || !x.Unlike() {
		t.Error(x.Len(), x.Unlike())
	}
	if x := made(t, []api.Pair{pair(of(1), 5), pair(of(2), 5)}, 9); x.Len() != 2 || x.Unlike() {
		t.Error(x.Len(), x.Unlike())
	}
	if x := made(t, []api.Pair{pair(of(1), 5)}, 5); x.Len() != 1 || x.Unlike() {
		t.Error(x.Len(), x.Unlike())
	}
	barred(t, []api.Pair{pair(of(1), 5), pair(of(1), 5)}, 9, api.ErrTable)
	if x := made(t, nil, 9); x.Len() != 0 || !x.Unlike() {
		t.Error(x.Len(), x.Unlike())
	}
}

// P7.1, R6: no pairs are a table, too, be they an empty list or none: all blocks have the rest.
func TestNoPairs(t *testing.T) {
	for _, rest := range edges {
		for _, l := range [][]api.Pair{nil, {}, pairs(5, 1, 1)[:0]} {
			x := made(t, l, rest)
			tells(t, x, nil, rest)
			for _, b := range [][]byte{of(0), of(255), numbered(0), numbered(1)} {
				prints(t, x, b, rest)
			}
		}
	}
}

// P7.1, P7.2: one pair has its fingerprint, all other blocks the rest, whichever both are.
func TestOnePair(t *testing.T) {
	for _, print := range edges {
		for _, rest := range edges {
			for _, b := range [][]byte{of(0), of(1), of(255), numbered(4), numbered(5)} {
				x := made(t, []api.Pair{pair(b, print)}, rest)
				prints(t, x, b, print)
				for at := range b {
					prints(t, x, changed(b, at), rest)
				}
				if x.Len() != 1 || x.Unlike() != (print != rest) {
					t.Error(print, rest, x.Len(), x.Unlike())
				}
			}
		}
	}
}

// P7.1: up to 1000 pairs are a table; one more, and many more, are too long.
func TestHowManyPairs(t *testing.T) {
	for _, n := range []int{2, 3, 10, 61, 127, 128, 129, 255, 256, 257, 512, 998, 999, 1000} {
		l := pairs(n, 3, 1<<55)
		tells(t, made(t, l, 1), l, 1)
	}
	for _, n := range []int{1001, 1002, 1024, 2000, 2001, 5000, 70000} {
		barred(t, pairs(n, 3, 1), 1, api.ErrLong, n, " pairs")
	}
}

// P7.1: what is too long is told ahead of what else is wrong.
func TestTooLongComesFirst(t *testing.T) {
	long := pairs(1001, 3, 1)
	for _, at := range []int{0, 1, 500, 999, 1000} {
		for _, b := range [][]byte{nil, of(1)[:127], append(of(1), 1), numbered(2)} {
			l := slices.Clone(long)
			l[at].Bytes = b
			barred(t, l, 0, api.ErrLong, at, " ", len(b))
		}
	}
	barred(t, slices.Repeat([]api.Pair{pair(of(1), 1)}, 1001), 1, api.ErrLong, "the same bytes")
	barred(t, make([]api.Pair, 1001), 0, api.ErrLong, "no bytes")
	barred(t, make([]api.Pair, 1000), 0, api.ErrTable, "no bytes")
}

// P7.1: bytes that are not 128 are no block's, wherever their pair stands.
func TestBytesOfPairs(t *testing.T) {
	for _, n := range []int{0, 1, 4, 63, 64, 126, 127, 129, 130, 255, 256, 384, 1 << 16} {
		for _, many := range []int{1, 2, 3, 1000} {
			for _, at := range []int{0, many / 2, many - 1} {
				l := pairs(many, 10, 1)
				l[at].Bytes = make([]byte, n)
				barred(t, l, 9, api.ErrTable, n, " bytes, at ", at, " of ", many)
			}
		}
	}
	barred(t, []api.Pair{{}}, 0, api.ErrTable)
	barred(t, []api.Pair{{Bytes: []byte{}, Print: 5}}, 9, api.ErrTable)
	barred(t, []api.Pair{{Bytes: of(1)[:127:128]}}, 0, api.ErrTable, "127 bytes, and room for one")
	tells(t, made(t, []api.Pair{pair(of(0), 5)}, 9), []api.Pair{pair(of(0), 5)}, 9)
}

// P7.1: the same bytes twice are refused, beside the same fingerprint and beside another one, next to each other and far apart, in the same memory and in another.
func TestSameBytesTwice(t *testing.T) {
	for _, many := range []int{2, 3, 10, 1000} {
		for _, at := range [][2]int{{0, 1}, {0, many - 1}, {many - 2, many - 1}, {many/2 - 1, many / 2}, {0, many / 2}} {
			if at[0] == at[1] {
				continue
			}
			l := pairs(many, 10, 1)
			for _, b := range [][]byte{l[at[0]].Bytes, bytes.Clone(l[at[0]].Bytes)} {
				for _, print := range []uint64{l[at[0]].Print, l[at[1]].Print, 9, 0, greatest} {
					l[at[1]] = pair(b, print)
					barred(t, l, 9, api.ErrTable, at, " of ", many, ", ", print)
				}
			}
		}
	}
	for _, print := range edges {
		barred(t, []api.Pair{pair(of(0), print), pair(of(0), print)}, 9, api.ErrTable, print)
		barred(t, []api.Pair{pair(of(0), print), pair(of(0), print+1)}, 9, api.ErrTable, print)
		barred(t, []api.Pair{pair(of(0), print), pair(of(0), print)}, print, api.ErrTable, print)
	}
	barred(t, []api.Pair{pair(of(1), 1), pair(of(2), 2), pair(of(3), 3), pair(of(1), 4)}, 9, api.ErrTable)
}

// P7.1, P7.2: blocks that differ in one byte alone are unlike ones, whichever byte it is: the first and the last, too.
func TestBlocksThatDifferInOneByte(t *testing.T) {
	for _, b := range [][]byte{of(0), of(1), of(255), numbered(8)} {
		l := []api.Pair{pair(b, 1000)}
		for at := range b {
			l = append(l, pair(changed(b, at), uint64(at)))
		}
		x := made(t, l, 999)
		if x.Len() != 129 || !x.Unlike() {
			t.Error(x.Len(), x.Unlike())
		}
		for _, p := range l {
			prints(t, x, p.Bytes, p.Print)
		}
		for at := range b {
			prints(t, x, changed(changed(b, at), (at+1)%128), 999)
		}
	}
}

// P7.2: what is no block has no fingerprint, whatever its bytes begin with, and whatever room there is behind them.
func TestBytesThatAreNoBlock(t *testing.T) {
	long := slices.Concat(of(1), of(1), of(2))
	for _, x := range []*table.Table{made(t, nil, 9), made(t, []api.Pair{pair(of(1), 5), pair(of(0), 6)}, 9), made(t, pairs(1000, 1, 1), greatest)} {
		for _, b := range [][]byte{nil, {}, {1}, long[:1], long[:64], long[:126], long[:127], long[:129], long[:130], long[:256], long[1:128], long, make([]byte, 127), make([]byte, 129), make([]byte, 1<<20)} {
			if n, e := x.Print(b); n != 0 || e != api.ErrArg {
				t.Errorf("Print of %d bytes: %v %v", len(b), n, e)
			}
		}
	}
	prints(t, made(t, []api.Pair{pair(of(1), 5)}, 9), long[:128], 5)
	prints(t, made(t, []api.Pair{pair(of(1), 5)}, 9), long[256:], 9)
}

// P7.2: a table is unlike just if no two fingerprints of pairs are the same, wherever they stand, and none is the rest.
func TestUnlike(t *testing.T) {
	for _, many := range []int{2, 3, 10, 1000} {
		for _, print := range edges {
			l := pairs(many, 1000, 1)
			l[0].Print = print
			if x := made(t, l, 999); !x.Unlike() {
				t.Error(many, print, "is not unlike")
			}
			for _, at := range []int{1, many / 2, many - 1} {
				l := slices.Clone(l)
				l[at].Print = print
				if x := made(t, l, 999); x.Unlike() || x.Len() != many {
					t.Error(many, at, print, "twice is unlike")
				}
				if x := made(t, l[1:], print); x.Unlike() {
					t.Error(many, at, print, "beside the rest is unlike")
				}
				if x := made(t, l, print); x.Unlike() {
					t.Error(many, at, print, "twice, beside the rest is unlike")
				}
			}
			if x := made(t, l[1:], print); !x.Unlike() {
				t.Error(many, print, "as the rest is not unlike")
			}
		}
	}
	if x := made(t, pairs(1000, 5, 0), 9); x.Unlike() || x.Len() != 1000 {
		t.Error("all fingerprints the same: unlike")
	}
	if x := made(t, pairs(4, 5, 0), 5); x.Unlike() {
		t.Error("all fingerprints the rest: unlike")
	}
	two := []api.Pair{pair(of(1), 5), pair(of(2), 6), pair(of(3), 6), pair(of(4), 5)}
	if made(t, two, 9).Unlike() || !made(t, two[:2], 9).Unlike() || !made(t, two[2:], 9).Unlike() {
		t.Error("two by two")
	}
}

// P7.2: a pair may have the rest's fingerprint, or another pair's: it is told all the same.
func TestFingerprintsThatAreTheSame(t *testing.T) {
	for _, print := range edges {
		for _, rest := range edges {
			l := []api.Pair{pair(of(1), print), pair(of(2), print), pair(of(3), rest), pair(of(4), print+1), pair(of(5), rest-1)}
			tells(t, made(t, l, rest), l, rest)
		}
	}
}

// P7.3: the same bytes have the same fingerprint always: in whatever memory they are, and whatever else was asked.
func TestSameBytesAlways(t *testing.T) {
	l := []api.Pair{pair(of(1), 5), pair(of(2), 5), pair(of(3), 9), pair(of(4), 0)}
	x := made(t, l, 9)
	for range 3 {
		for b := range 256 {
			prints(t, x, of(byte(b)), told(l, 9, of(byte(b))))
			prints(t, x, append(make([]byte, b), of(byte(b))...)[b:], told(l, 9, of(byte(b))))
			x.Print(of(1)[:127])
		}
		if x.Len() != 4 || x.Unlike() {
			t.Error(x.Len(), x.Unlike())
		}
	}
}

// P7.3: in whichever order pairs are handed in, a table tells the same.
func TestOrderOfPairs(t *testing.T) {
	r := rand.New(rand.NewSource(1))
	for _, by := range []uint64{0, 1, 1 << 62} {
		for _, n := range []int{2, 3, 5, 100} {
			l := pairs(n, 5, by)
			for _, rest := range []uint64{4, 5, 6} {
				turned := slices.Clone(l)
				slices.Reverse(turned)
				tells(t, made(t, turned, rest), l, rest)
				for range 3 {
					r.Shuffle(n, func(i, j int) { turned[i], turned[j] = turned[j], turned[i] })
					tells(t, made(t, turned, rest), l, rest)
				}
			}
		}
	}
	bad := []api.Pair{pair(of(1), 1), pair(of(2), 2), pair(of(1), 3), pair(of(3)[:127], 4), pair(of(4), 5)}
	for range 50 {
		r.Shuffle(len(bad), func(i, j int) { bad[i], bad[j] = bad[j], bad[i] })
		barred(t, bad, 9, api.ErrTable)
	}
}

// P7.3: if a table is unlike, two blocks have the same fingerprint just if they are the same, or neither is a pair's; if it is not, some pair's block has one that another block has.
func TestWhatUnlikeSays(t *testing.T) {
	asked := [][]byte{of(0), of(1), of(2), of(3), of(4), of(5), changed(of(1), 0), changed(of(1), 127)}
	for bits := range 6 * 6 * 6 * 3 {
		l := []api.Pair{pair(of(1), uint64(bits%6)), pair(of(2), uint64(bits/6%6)), pair(of(3), uint64(bits/36%6))}
		x := made(t, l, uint64(bits/216)*2)
		apart := true
		for i, b := range asked {
			for j, c := range asked {
				n, _ := x.Print(b)
				m, _ := x.Print(c)
				neither := (i < 1 || i > 3) && (j < 1 || j > 3)
				apart = apart && (n == m) == (i == j || neither)
			}
		}
		if apart != x.Unlike() {
			t.Error(l, bits/216*2, apart, x.Unlike())
		}
	}
}

// R2: what is refused leaves nothing behind that a later table tells; tables are apart from each other.
func TestTablesAreApart(t *testing.T) {
	one := made(t, []api.Pair{pair(of(1), 5)}, 9)
	barred(t, []api.Pair{pair(of(2), 6), pair(of(1), 7), pair(of(1), 8)}, 0, api.ErrTable)
	two := made(t, []api.Pair{pair(of(2), 6)}, 8)
	three := made(t, []api.Pair{pair(of(1), 7), pair(of(2), 9)}, 9)
	for range 2 {
		tells(t, one, []api.Pair{pair(of(1), 5)}, 9)
		tells(t, two, []api.Pair{pair(of(2), 6)}, 8)
		tells(t, three, []api.Pair{pair(of(1), 7), pair(of(2), 9)}, 9)
	}
}

// R5: of no table, and of one that New did not answer, nothing is told, whatever is asked.
func TestNoTable(t *testing.T) {
	l := []api.Pair{pair(of(1), 5), pair(of(0), 6)}
	real := made(t, l, 9)
	byValue := *real
	refused, _ := table.New([]api.Pair{{}}, 9)
	for _, x := range []*table.Table{nil, {}, new(table.Table), &byValue, refused} {
		for range 2 {
			if x.Len() != 0 || x.Unlike() {
				t.Error(x.Len(), x.Unlike())
			}
			for _, b := range [][]byte{nil, {}, of(0), of(1), of(2), of(1)[:127], make([]byte, 129)} {
				if n, e := x.Print(b); n != 0 || e != api.ErrNil {
					t.Error(n, e)
				}
			}
		}
	}
	tells(t, real, l, 9)
}

// R3: what is handed in is not changed, its spare room neither, be there a table of it or not.
func TestWhatIsHandedIn(t *testing.T) {
	room := slices.Concat(of(1), of(2), of(3), of(1))
	short := func(b []byte, n int) []byte { return b[:n] } // with what is behind it in its room
	all := []api.Pair{pair(short(room, 128), 5), pair(short(room[128:], 128), 5), pair(short(room[256:], 128), 9), pair(short(room[384:], 128), 1), pair(short(room[1:], 127), 2), pair(nil, 3), {}}
	was, pairsWere := bytes.Clone(room), cloned(all)
	for n := range len(all) + 1 {
		want := api.OK
		if n > 3 {
			want = api.ErrTable
		}
		x, e := table.New(all[:n], 9)
		if e != want || (x == nil) != (e != api.OK) {
			t.Error(n, x, e)
		}
		for at := 0; at+128 <= len(room); at += 64 {
			x.Print(room[at : at+128])
			x.Print(room[at : at+127])
		}
	}
	if !bytes.Equal(room, was) {
		t.Error("bytes that were handed in were changed")
	}
	for i, p := range all {
		if q := pairsWere[i]; p.Print != q.Print || !bytes.Equal(p.Bytes, q.Bytes) || (p.Bytes == nil) != (q.Bytes == nil) {
			t.Error("a pair that was handed in was changed", i)
		}
	}
}

// P7.1, R3: what is handed in is not kept: a table is the same, whatever is written over it behind the call.
func TestMemoryWrittenOver(t *testing.T) {
	for _, n := range []int{1, 2, 3, 1000} {
		l, was := pairs(n, 5, 1), pairs(n, 5, 1)
		x := made(t, l, 1)
		bytesOf := make([][]byte, n)
		for i := range l {
			bytesOf[i] = l[i].Bytes
			l[i].Print = 1
			l[i].Bytes[0]++
			l[i].Bytes[127]++
		}
		tells(t, x, was, 1)
		for i := range l {
			copy(l[i].Bytes, of(200))
			l[i] = pair(of(201), 7)
		}
		tells(t, x, was, 1)
		for i := range l {
			copy(bytesOf[i], numbered((i+1)%n))
		}
		clear(l)
		tells(t, x, was, 1)
	}
}

// R3: what Print is handed is not kept: neither does the next answer hang on it.
func TestPrintKeepsNothing(t *testing.T) {
	x := made(t, []api.Pair{pair(of(1), 5), pair(of(2), 6)}, 9)
	b := of(1)
	prints(t, x, b, 5)
	copy(b, of(2))
	prints(t, x, b, 6)
	prints(t, x, of(1), 5)
	b[0] = 3
	prints(t, x, b, 9)
	prints(t, x, of(2), 6)
	if x.Len() != 2 || !x.Unlike() {
		t.Error(x.Len(), x.Unlike())
	}
}

// P7.1 to P7.3: tables of pairs by chance, right and wrong ones, tell what the words say.
func TestAgainstTheWords(t *testing.T) {
	r := rand.New(rand.NewSource(7))
	pool := [][]byte{of(0), of(1), of(255), changed(of(0), 0), changed(of(0), 127), changed(of(1), 0), changed(of(1), 64), changed(of(1), 127)}
	for i := range 12 {
		pool = append(pool, numbered(i))
	}
	few := []uint64{0, 1, 5, greatest}
	counts := map[api.Errno]int{}
	for range 4000 {
		var l []api.Pair
		for range r.Intn(6) {
			p := pair(bytes.Clone(pool[r.Intn(len(pool))]), r.Uint64())
			if r.Intn(2) == 0 {
				p.Print = few[r.Intn(len(few))]
			}
			if r.Intn(30) == 0 {
				p.Bytes = p.Bytes[:127]
			}
			l = append(l, p)
		}
		rest := few[r.Intn(len(few))]
		want := right(l)
		counts[want]++
		if want != api.OK {
			barred(t, l, rest, want, l)
			continue
		}
		x := made(t, cloned(l), rest)
		if x.Len() != len(l) || x.Unlike() != unlike(l, rest) {
			t.Error(l, rest, x.Len(), x.Unlike())
		}
		for _, b := range pool {
			prints(t, x, b, told(l, rest, b))
		}
	}
	if counts[api.OK] < 1000 || counts[api.ErrTable] < 500 {
		t.Error("too few of a kind:", counts)
	}
}
