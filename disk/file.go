package disk

// file has bytes, of which the first ones are safe.
type file struct {
	bytes []byte
	safe  int
}

// waiting: how many are unsafe.
func (x file) waiting() int { return len(x.bytes) - x.safe }

// keep: only the first n bytes are there, all of them safe.
func (x *file) keep(n int) {
	x.bytes = x.bytes[:n]
	x.safe = n
}

// piece is what lies in one file of bytes that were laid one behind the other.
type piece struct{ file, size int }

// longer: a row with one piece more, or with a longer last one, since many small pieces would fill more room than their bytes.
func longer(row []piece, p piece) []piece {
	if p.size == 0 {
		return row
	}
	last := len(row) - 1
	if last >= 0 && row[last].file == p.file {
		row[last].size += p.size
		return row
	}
	return append(row, p)
}
