package entry

import (
	"pantry/api"
	"pantry/field"
)

const (
	mark = 0x45

	// A record begins with its mark, version, size and sum, each behind the
	// one before it.
	versionAt = 1
	sizeAt    = 2
	sumAt     = 4
	beginSize = 8

	sumBytes    = 4
	countBytes  = 2
	numberBytes = 6

	sumStart  = 2166136261
	sumFactor = 16777619
)

// sum is FNV-1a of 32 bits: the product wraps round.
func sum(b []byte) uint32 {
	h := uint32(sumStart)
	for _, c := range b {
		h = (h ^ uint32(c)) * sumFactor
	}
	return h
}

// put puts a number behind b, in some bytes, the highest first.
func put(b []byte, n, size int) []byte {
	for i := size - 1; i >= 0; i-- {
		b = append(b, byte(n>>(8*i)))
	}
	return b
}

func putNumber(b []byte, n int) []byte { return put(b, n, numberBytes) }

func putText(b []byte, s string) []byte { return append(put(b, len(s), countBytes), s...) }

func putField(b []byte, f field.Field) []byte { return putText(putText(b, f.Name), f.Value) }

// putList puts a list behind b, each part by a function.
func putList[T any](b []byte, parts []T, putPart func(b []byte, part T) []byte) []byte {
	b = put(b, len(parts), countBytes)
	for _, part := range parts {
		b = putPart(b, part)
	}
	return b
}

// putEntry is the rest of a record. The entry is right, so that each count has
// room in its bytes.
func putEntry(version int, e Entry) []byte {
	var b []byte
	if version >= varying {
		b = putText(b, e.Second)
		b = putList(b, e.Names, putText)
	}
	if version >= dated {
		b = putNumber(b, e.Generation)
	}
	b = putText(b, e.Key)
	b = putNumber(b, e.Asked)
	b = putNumber(b, e.Came)
	b = putNumber(b, e.Status)
	b = putList(b, e.Fields, putField)
	return putText(b, string(e.Body))
}

// begin is what stands ahead of the rest of a record.
func begin(version int, rest []byte) []byte {
	b := []byte{mark, byte(version)}
	b = put(b, len(rest), countBytes)
	return put(b, int(sum(rest)), sumBytes)
}

// numberOf is the number that stands in bytes, the highest first.
func numberOf(b []byte) int {
	n := 0
	for _, c := range b {
		n = n<<8 | int(c)
	}
	return n
}

func versionOf(b []byte) int { return int(b[versionAt]) }

// check is what is wrong with a record but for what its rest says.
func check(b []byte) api.Errno {
	if !within(len(b), beginSize, api.MaxRecord) || b[0] != mark {
		return api.ErrForm
	}
	rest := b[beginSize:]
	switch {
	case !known(versionOf(b)):
		return api.ErrVersion
	case numberOf(b[sizeAt:sumAt]) != len(rest):
		return api.ErrForm
	case numberOf(b[sumAt:beginSize]) != int(sum(rest)):
		return api.ErrSum
	}
	return api.OK
}

// reader takes part after part off the front of a rest. Where bytes lack it
// goes on with zero values, and short stays.
type reader struct {
	left  []byte
	short bool
}

func (r *reader) take(size int) []byte {
	if size > len(r.left) {
		r.short = true
		return nil
	}
	taken := r.left[:size]
	r.left = r.left[size:]
	return taken
}

func (r *reader) count() int { return numberOf(r.take(countBytes)) }

func (r *reader) number() int { return numberOf(r.take(numberBytes)) }

func (r *reader) text() string { return string(r.take(r.count())) }

func (r *reader) field() field.Field {
	name := r.text()
	return field.Field{Name: name, Value: r.text()}
}

// list reads a list, each part by a function, as far as there are bytes.
func list[T any](r *reader, part func() T) []T {
	var parts []T
	for n := r.count(); n > 0 && !r.short; n-- {
		parts = append(parts, part())
	}
	return parts
}

// readEntry is the entry of a rest, and whether the rest is just that of one.
func readEntry(version int, rest []byte) (Entry, bool) {
	r := &reader{left: rest}
	e := Entry{Generation: firstGeneration}
	if version >= varying {
		e.Second = r.text()
		e.Names = list(r, r.text)
	}
	if version >= dated {
		e.Generation = r.number()
	}
	e.Key = r.text()
	e.Asked = r.number()
	e.Came = r.number()
	e.Status = r.number()
	e.Fields = list(r, r.field)
	e.Body = []byte(r.text())
	return e, !r.short && len(r.left) == 0
}
