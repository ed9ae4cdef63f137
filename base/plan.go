package base

import (
	"catchment/api"
	"catchment/disk"
	"catchment/index"
	"catchment/pick"
	"catchment/place"
	"catchment/super"
	"catchment/tally"
)

// dirRoots is how many roots of a super are directory pages: the first ones.
const dirRoots = 2

// step is one thing that is done with a disk.
type step struct{ do func() api.Errno }

// plan is what is to be done with a disk, step by step.
type plan struct {
	disk  *disk.Disk
	steps []step
}

// layout is where pages stand, and which of them were placed: those are not written yet.
type layout struct {
	sheet       api.Sheet
	pages, dirs []int
}

// Format lays a pool without anything on a disk. Noughts stand in both supers' blocks ahead of all else: no super of old may count when its pages are written over.
func Format(d *disk.Disk) api.Errno {
	blocks := d.Len()
	if blocks == 0 { // each disk that was made has blocks
		return api.ErrNil
	}
	t, _ := tally.New(blocks)
	k, _ := pick.New(t, api.First)
	l, _ := settle(t, k, nowhere(blocks)) // the smallest disk has room for its pages, too
	p := &plan{disk: d}
	for at := range api.First {
		p.write(at, make([]byte, api.Block))
	}
	p.flush()
	p.pages(t, l)
	s := api.Super{Gen: 1, Blocks: uint32(blocks)}
	lead(&s, l.sheet.Dirs)
	p.finish(s)
	return p.run()
}

// nowhere answers the sheet of so many blocks whose pages stand nowhere yet.
func nowhere(blocks int) api.Sheet {
	pages := index.Pages(blocks)
	return api.Sheet{Pages: make([]int, pages), Dirs: make([]int, index.Pages(pages))}
}

// settle places pages.
func settle(t *tally.Tally, k *pick.Pick, s api.Sheet) (layout, api.Errno) {
	s, pages, dirs, e := place.Place(t, k, s)
	return layout{s, pages, dirs}, e
}

// lead lets a super begin with these directory pages.
func lead(s *api.Super, dirs []int) {
	copy(s.Roots[:dirRoots], as[uint32](dirs))
}

// write lets a block have data.
func (p *plan) write(at int, data []byte) {
	p.steps = append(p.steps, step{func() api.Errno { return p.disk.Write(at, data) }})
}

// flush lets all that was written ahead of it stand on the disk.
func (p *plan) flush() {
	p.steps = append(p.steps, step{p.disk.Flush})
}

// pages writes those pages that were placed.
func (p *plan) pages(t *tally.Tally, l layout) {
	for _, i := range l.pages {
		p.row(api.PageCounts, l.sheet.Pages[i], place.Counts(t, i))
	}
	for _, i := range l.dirs {
		p.row(api.PageDir, l.sheet.Dirs[i], as[uint16](part(l.sheet.Pages, i)))
	}
}

// row writes a page of numbers. They are never more than a page has, so that they always may be encoded.
func (p *plan) row(kind uint8, at int, l []uint16) {
	page, _ := index.Encode(kind, l)
	p.write(at, page)
}

// finish lets a right super count: it is written when all that it leads to stands on the disk, whatever comes.
func (p *plan) finish(s api.Super) {
	page, _ := super.Encode(s)
	p.flush()
	p.write(super.Slot(s.Gen), page)
	p.flush()
}

// run does step by step, till one fails.
func (p *plan) run() api.Errno {
	for _, s := range p.steps {
		if e := s.do(); e != api.OK {
			return e
		}
	}
	return api.OK
}

// part answers what of a row's list a page has.
func part[T any](l []T, page int) []T {
	from := page * api.MaxIndex
	return l[from:min(from+api.MaxIndex, len(l))]
}

// as answers the same numbers as those of another kind.
func as[To, From int | uint16 | uint32](l []From) []To {
	out := make([]To, len(l))
	for i, n := range l {
		out[i] = To(n)
	}
	return out
}
