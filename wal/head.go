package wal

import (
	"tallyhouse/api"
	"tallyhouse/blake"
	"tallyhouse/disk"
	"tallyhouse/octet"
)

const (
	letters = "tallywal" // what a head begins with
	sealed  = 60         // how many of a head's bytes stand ahead of their seal
	heads   = 2          // sectors
	sides   = 2
)

// head is what a head says; a zero one says nothing, as turns begin with 1.
type head struct {
	turn, area, side uint32
	used             uint32 // sectors
	count            uint32 // sheets
	mark             uint32
}

// fits tells whether an area may be, on a disk of so many sectors.
func fits(area, sectors int) bool {
	return area >= api.MinArea && area <= api.MaxArea && sectors >= heads+sides*area
}

// headThatCounts reads both; turns are never the same, as one of both is even.
func headThatCounts(d *disk.Disk) (head, api.Errno) {
	var found [heads]head
	for i := range found {
		b, err := d.Read(i)
		if err != api.OK {
			return head{}, err
		}
		found[i] = rightHead(b, i, d.Len())
	}
	h := found[0]
	if h.turn < found[1].turn {
		h = found[1]
	}
	if h == (head{}) {
		return head{}, api.ErrWal
	}
	return h, api.OK
}

// rightHead is what a head's sector says, on a disk of so many; the zero head, if it is not right.
func rightHead(b api.Block, sector, sectors int) head {
	r := octet.Read(b[len(letters):])
	h := head{turn: r.U32(), area: r.U32(), side: r.U32(), used: r.U32(), count: r.U32(), mark: r.U32()}
	switch {
	case h.block() != b,
		h.turn < 1 || h.turn > api.WalTurns || h.sector() != sector,
		!fits(int(h.area), sectors) || h.side >= sides || h.count < 1:
		return head{}
	}
	return h
}

// block is the bytes of a head.
func (h head) block() api.Block {
	b := []byte(letters)
	for _, x := range []uint32{h.turn, h.area, h.side, h.used, h.count, h.mark} {
		b = octet.Put32(b, x)
	}
	var out api.Block
	copy(out[:], b)
	copy(out[sealed:], octet.Put32(nil, short(out[:sealed])))
	return out
}

// short is the first four bytes of a digest, as a number.
func short(b []byte) uint32 {
	id := blake.Sum(b)
	return octet.Read(id[:]).U32()
}

// sector is where a head stands: not where the one of the turn ahead does, which counts till it is whole.
func (h head) sector() int {
	return int(h.turn % heads)
}

// end is the sector behind the sheets.
func (h head) end() int {
	return h.begin() + int(h.used)
}

// begin is the first sector of the side.
func (h head) begin() int {
	return heads + int(h.side)*int(h.area)
}

// left is how many sectors of the side are behind the sheets.
func (h head) left() int {
	return int(h.area) - int(h.used)
}

// next says the same, a turn later.
func (h head) next() head {
	h.turn++
	return h
}

// on says that there is no sheet yet, on that side.
func (h head) on(side uint32) head {
	return head{turn: h.turn, area: h.area, side: side}
}

// with says that there is one sheet more, of these bytes.
func (h head) with(b []byte) head {
	h.used += uint32(Sectors(len(b)))
	h.count++
	h.mark = short(append(octet.Put32(nil, h.mark), b...))
	return h
}

// read is the bytes of the sectors that the head speaks of. Where it speaks of more than its side has, they are not there, and none is read.
func (h head) read(d *disk.Disk) ([]byte, api.Errno) {
	var out []byte
	if h.left() < 0 {
		return nil, api.OK
	}
	for i := h.begin(); i < h.end(); i++ {
		b, err := d.Read(i)
		if err != api.OK {
			return nil, err
		}
		out = append(out, b[:]...)
	}
	return out, api.OK
}

// there is what stands in these sectors, and whether it is what the head says: the head that sheets make, one by one, is to be the same.
func (h head) there(b []byte) (sheets, bool) {
	all := cutAll(b)
	said := h.on(h.side)
	for _, b := range all.each() {
		said = said.with(b)
	}
	return all, said == h
}
