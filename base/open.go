package base

import (
	"catchment/api"
	"catchment/disk"
	"catchment/index"
	"catchment/pick"
	"catchment/place"
	"catchment/super"
	"catchment/tally"
)

// Open answers the base of a disk that was formatted.
func Open(d *disk.Disk) (*Base, api.Errno) {
	s, e := superOf(d)
	if e != api.OK {
		return nil, e
	}
	sheet, counts, e := pagesOf(d, s)
	if e != api.OK {
		return nil, e
	}
	t, _ := tally.Of(counts)
	if !place.Right(t, sheet) {
		return nil, api.ErrPool
	}
	k, _ := pick.New(t, api.First)
	b := &Base{disk: d, tally: t, pick: k, sheet: sheet, kept: s, now: s, fresh: map[int][]byte{}}
	b.self = b
	return b, api.OK
}

// superOf answers the super of a disk.
func superOf(d *disk.Disk) (api.Super, api.Errno) {
	var blocks [api.First][]byte
	for at := range blocks {
		data, e := d.Read(at)
		if e != api.OK {
			return api.Super{}, e
		}
		blocks[at] = data
	}
	s, _, e := super.Pick(blocks[0], blocks[1])
	if e != api.OK || int(s.Blocks) != d.Len() {
		return api.Super{}, api.ErrPool
	}
	return s, api.OK
}

// pagesOf answers where the pages of a super stand, and all counts.
func pagesOf(d *disk.Disk, s api.Super) (api.Sheet, []uint16, api.Errno) {
	dirs := as[int](s.Roots[:dirRoots])
	many := index.Pages(d.Len())
	need := index.Pages(many)
	for _, at := range dirs[need:] {
		if at != 0 { // a page too many
			return api.Sheet{}, nil, api.ErrPool
		}
	}
	pages, e := row(d, api.PageDir, dirs[:need], many)
	if e != api.OK {
		return api.Sheet{}, nil, e
	}
	sheet := api.Sheet{Pages: as[int](pages), Dirs: dirs[:need]}
	counts, e := row(d, api.PageCounts, sheet.Pages, d.Len())
	if e != api.OK {
		return api.Sheet{}, nil, e
	}
	return sheet, counts, api.OK
}

// row answers the n numbers of a row whose pages, of that kind, stand at these blocks. Each page has to have just its part: a page that is written anew later has it, too.
func row(d *disk.Disk, kind uint8, at []int, n int) ([]uint16, api.Errno) {
	all := make([]uint16, n)
	for page, b := range at {
		if b < api.First || b >= d.Len() {
			return nil, api.ErrPool
		}
		data, e := d.Read(b)
		if e != api.OK {
			return nil, e
		}
		l, e := index.Decode(kind, data)
		to := part(all, page)
		if e != api.OK || len(l) != len(to) {
			return nil, api.ErrPool
		}
		copy(to, l)
	}
	return all, api.OK
}
