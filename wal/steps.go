package wal

import (
	"tallyhouse/api"
	"tallyhouse/disk"
)

// steps are writes and syncs that are still to be done, in this order.
type steps []func() api.Errno

// do ends at the first one that is refused: what stands behind it hangs on it.
func (s steps) do() api.Errno {
	for _, step := range s {
		if err := step(); err != api.OK {
			return err
		}
	}
	return api.OK
}

// noHeads takes whatever head there is away.
func noHeads(d *disk.Disk) steps {
	var row steps
	for i := range heads {
		row = append(row, func() api.Errno { return d.Write(i, api.Block{}) })
	}
	return append(row, d.Sync)
}

// writeSheet writes a sheet of b from a sector on.
func writeSheet(d *disk.Disk, first int, b []byte) steps {
	var row steps
	all := sheet(b)
	for i := range Sectors(len(b)) {
		from, to := i*api.Sector, (i+1)*api.Sector
		one := api.Block(all[from:to:to])
		row = append(row, func() api.Errno { return d.Write(first+i, one) })
	}
	return append(row, d.Sync)
}

// layHead is behind a sync of all that the head speaks of, so that no crash keeps the head alone.
func layHead(d *disk.Disk, h head) steps {
	return steps{
		func() api.Errno { return d.Write(h.sector(), h.block()) },
		d.Sync,
	}
}
