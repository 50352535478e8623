package redo

import "pantry/api"

const (
	placeSectors = imagesAt - placesAt
	mostChanges  = dataAt - imagesAt
	placeBytes   = 2

	// A head begins with its mark, how many changes there are, and the sum, each
	// behind the one before it.
	mark    = 0x5244
	countAt = 2
	sumAt   = 4
	sumEnd  = 8

	sumStart  = 2166136261
	sumFactor = 16777619
)

// job is a job as it is written: the places' sectors, and its images behind them.
type job []byte

func sectorOf(sectors []byte, i int) []byte { return sectors[i*api.Sector : (i+1)*api.Sector] }

// jobOf is the job of changes that are one.
func jobOf(changes ...Change) job {
	j := make(job, (placeSectors+len(changes))*api.Sector)
	for i, c := range changes {
		setNumber(j.placeOf(i), c.At)
		copy(j.image(i), c.Data)
	}
	return j
}

func (j job) changes() int { return len(j)/api.Sector - placeSectors }

func (j job) placeOf(change int) []byte { return j[change*placeBytes : (change+1)*placeBytes] }

// place is the data sector of a change.
func (j job) place(change int) int { return numberOf(j.placeOf(change)) }

func (j job) image(change int) []byte { return sectorOf(j, placeSectors+change) }

func (j job) head() []byte {
	h := make([]byte, api.Sector)
	setNumber(h[:countAt], mark)
	setNumber(h[countAt:sumAt], j.changes())
	setNumber(h[sumAt:sumEnd], int(sum(h[countAt:sumAt], j)))
	return h
}

// changesOf is how many changes a head tells of; 0, if it doesn't begin as one.
func changesOf(head []byte) int {
	n := numberOf(head[countAt:sumAt])
	if numberOf(head[:countAt]) != mark || n > mostChanges {
		return 0
	}
	return n
}

// sum is FNV-1a of 32 bits, of parts one behind the other: the product wraps round.
func sum(parts ...[]byte) uint32 {
	h := uint32(sumStart)
	for _, b := range parts {
		for _, c := range b {
			h = (h ^ uint32(c)) * sumFactor
		}
	}
	return h
}

// setNumber fills b with a number, the highest byte first.
func setNumber(b []byte, n int) {
	for i := range b {
		b[i] = byte(n >> (8 * (len(b) - 1 - i)))
	}
}

// numberOf is the number that stands in b, the highest byte first.
func numberOf(b []byte) int {
	n := 0
	for _, c := range b {
		n = n<<8 | int(c)
	}
	return n
}
