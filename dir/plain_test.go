package dir_test

import (
	"fmt"
	"slices"

	"catchment/api"
)

// digits are all numbers of as many bits, as they are written.
var digits = [][]string{numbers(0), numbers(1), numbers(2), numbers(3), numbers(4), numbers(5), numbers(6), numbers(7), numbers(8)}

// numbers answers all numbers of so many bits, as they are written.
func numbers(many int) []string {
	if many == 0 {
		return []string{""}
	}
	out := make([]string, 1<<many)
	for i := range out {
		out[i] = fmt.Sprintf("%0*b", many, i)
	}
	return out
}

// alikes answers the numbers of so many bits that are alike with one in the first k.
func alikes(number, k, many int) []int {
	var out []int
	for i, x := range digits[many] {
		if x[:k] == digits[many][number][:k] {
			out = append(out, i)
		}
	}
	return out
}

// bucket is all slots that name the block that one names.
func bucket(d api.Dir, slot int) []int {
	var out []int
	for i, block := range d.Slots {
		if block == d.Slots[slot] {
			out = append(out, i)
		}
	}
	return out
}

// deep answers in how many bits the slots of a bucket are alike, if these are all of that kind.
func deep(d api.Dir, slot int) (int, bool) {
	for k := 0; k <= int(d.Depth); k++ {
		if slices.Equal(bucket(d, slot), alikes(slot, k, int(d.Depth))) {
			return k, true
		}
	}
	return 0, false
}

// right is what the chapter's words say of a right directory.
func right(d api.Dir) bool {
	if d.Depth > 8 || len(d.Slots) != len(digits[d.Depth]) {
		return false
	}
	met := map[uint16]bool{}
	for slot, block := range d.Slots {
		if block < 1 || block > 4095 {
			return false
		}
		if met[block] {
			continue
		}
		met[block] = true
		if _, ok := deep(d, slot); !ok {
			return false
		}
	}
	return true
}

// at is what P17.1 says of a right directory and a fingerprint.
func at(d api.Dir, print uint64) int {
	return slices.Index(digits[d.Depth], fmt.Sprintf("%064b", print)[:d.Depth])
}

// point is what P17.2 says of a right directory.
func point(d api.Dir, slot, depth int, block uint16) (api.Dir, api.Errno) {
	if slot < 0 || slot >= len(d.Slots) || depth < 0 || depth > int(d.Depth) || block < 1 || block > 4095 {
		return api.Dir{}, api.ErrArg
	}
	p := api.Dir{Depth: d.Depth, Slots: slices.Clone(d.Slots)}
	for _, i := range alikes(slot, depth, int(d.Depth)) {
		p.Slots[i] = block
	}
	if !right(p) {
		return api.Dir{}, api.ErrDeep
	}
	return p, api.OK
}

// double is what P17.3 says of a right directory.
func double(d api.Dir) (api.Dir, api.Errno) {
	if d.Depth == 8 {
		return api.Dir{}, api.ErrDeep
	}
	p := api.Dir{Depth: d.Depth + 1}
	for _, block := range d.Slots {
		p.Slots = append(p.Slots, block, block)
	}
	return p, api.OK
}

// halve is what P17.3 says of a right directory.
func halve(d api.Dir) (api.Dir, api.Errno) {
	if d.Depth == 0 {
		return api.Dir{}, api.ErrDeep
	}
	p := api.Dir{Depth: d.Depth - 1}
	for i, block := range d.Slots {
		if len(bucket(d, i)) == 1 {
			return api.Dir{}, api.ErrDeep
		}
		if i%2 == 0 {
			p.Slots = append(p.Slots, block)
		}
	}
	return p, api.OK
}

// buddy is what P17.4 says.
func buddy(slot, depth, bits int) (int, api.Errno) {
	if bits < 0 || bits > 8 || depth < 1 || depth > bits || slot < 0 || slot >= len(digits[bits]) {
		return 0, api.ErrArg
	}
	for _, x := range alikes(slot, depth-1, bits) {
		if !slices.Contains(alikes(slot, depth, bits), x) {
			return x, api.OK
		}
	}
	return 0, api.ErrArg
}
