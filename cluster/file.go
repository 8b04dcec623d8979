package cluster

import (
	"streamwright/api"
	"streamwright/disk"
	"streamwright/wire"
)

// fileOf gives a checkpoint as the bytes of a file. What can be packed at once
// is bounded, and what the operators of a job keep together can be more: then
// the first half of the pieces stands ahead, by itself, with no mark.
func fileOf(k api.Check) []byte {
	data, err := disk.Pack(k)
	if err == nil || len(k.Pieces) < 2 {
		return data
	}
	half := len(k.Pieces) / 2
	ahead := fileOf(api.Check{Pieces: k.Pieces[:half]})
	k.Pieces = k.Pieces[half:]
	return append(ahead, fileOf(k)...)
}

// checkOf gives the checkpoint of which a file has the bytes; false: it is
// not whole. Only the end of a whole one has a mark.
func checkOf(data []byte) (api.Check, bool) {
	var k api.Check
	for at := 0; at < len(data); {
		_, end, err := wire.Open(data, at)
		if err != nil {
			return api.Check{}, false
		}
		part, err := disk.Unpack(data[at:end])
		if err != nil {
			return api.Check{}, false
		}
		part.Pieces = append(k.Pieces, part.Pieces...)
		k, at = part, end
	}
	return k, k.Mark > 0
}

// newest gives the newest checkpoint that is whole on a disk, and the name of
// its file; if there is none, its Mark is 0.
func newest(d *disk.Disk) (api.Check, string) {
	var last api.Check
	var file string
	for _, name := range d.Names() {
		data, _ := d.Read(name)
		if k, ok := checkOf(data); ok && k.Mark > last.Mark {
			last, file = k, name
		}
	}
	return last, file
}
