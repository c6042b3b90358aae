package store

import (
	"bytes"
	"cmp"
	"math"
	"slices"

	"murmuration/api"
	"murmuration/attest"
	"murmuration/journal"
	"murmuration/merkle"
)

// Kinds of records.
const (
	headKind byte = 1 + iota
	blobKind
	goneKind
	resultKind
	incarnationKind
	sealKind
)

// How many bytes records have.
const (
	numberLength = 1 + 8
	goneLength   = 1 + 32
	resultLength = 1 + 104
)

// How many bytes the forms of records have: a byte or two of length, and eight of their digest, are more.
const (
	resultSize = 2 + resultLength + 8
	frameSize  = 2*(2+numberLength+8) + (2 + 1 + 8) // head, incarnation and seal
)

func blobSize(length int) int {
	record := 1 + length
	if record <= math.MaxUint8 {
		return 2 + record + 8
	}
	return 3 + record + 8
}

func numberRecord(kind byte, n uint64) []byte {
	r := []byte{kind}
	for shift := 56; shift >= 0; shift -= 8 {
		r = append(r, byte(n>>shift))
	}
	return r
}

func blobRecord(b []byte) []byte {
	return append([]byte{blobKind}, b...)
}

func goneRecord(root api.Digest) []byte {
	return append([]byte{goneKind}, root[:]...)
}

func resultRecord(a api.Attest) []byte {
	b, _ := attest.Bytes(a)
	return append([]byte{resultKind}, b...)
}

// isRight tells whether a record is of one of the kinds, and of its form.
func isRight(r []byte) bool {
	switch r[0] {
	case headKind, incarnationKind:
		return len(r) == numberLength
	case blobKind:
		return len(r) > 1 && len(r) <= 1+api.MaxBlob
	case goneKind:
		return len(r) == goneLength
	case resultKind:
		_, e := attest.Read(r[1:])
		return e == api.OK
	case sealKind:
		return len(r) == 1
	}
	return false
}

// numberOf is the number of a head or an incarnation.
func numberOf(r []byte) uint64 {
	n := uint64(0)
	for _, x := range r[1:] {
		n = n<<8 | uint64(x)
	}
	return n
}

// rightRecords is the whole records of a file's bytes, if these make a file that is right.
func rightRecords(b []byte) ([][]byte, bool) {
	records, _ := journal.Read(b)
	if len(records) == 0 || records[0][0] != headKind {
		return nil, false
	}
	sealed := false
	for _, r := range records {
		if !isRight(r) {
			return nil, false
		}
		sealed = sealed || r[0] == sealKind
	}
	return records, sealed
}

// findLiving looks which file is the living one, and tells its records.
func (s *Store) findLiving() [][]byte {
	s.living = 1 // so that the file 0 is written first, where none is right
	var living [][]byte
	for f := range 2 {
		records, ok := rightRecords(s.disk.Bytes(f))
		if !ok {
			continue
		}
		if g := numberOf(records[0]); living == nil || g > s.generation {
			living, s.living, s.generation = records, f, g
		}
	}
	return living
}

// replay does what a record says.
func (s *Store) replay(r []byte) {
	switch r[0] {
	case blobKind:
		name := merkle.Root(r[1:])
		if x := s.blobs[name]; x != nil {
			s.stamp(x)
			s.use(x)
		} else {
			s.add(name, r[1:])
		}
	case goneKind:
		if x := s.blobs[api.Digest(r[1:])]; x != nil {
			s.remove(x)
		}
	case resultKind:
		if a, e := attest.Read(r[1:]); e == api.OK && s.hasBlobOf(a) {
			s.setResult(a)
		}
	case incarnationKind:
		s.incarnation = numberOf(r)
	}
}

// write puts records, of what is already done, on the disk; where the living file has no room for them all is written anew.
func (s *Store) write(records ...[]byte) {
	if s.disk.Append(s.living, forms(records)) != api.OK {
		s.rewrite()
	}
}

// rewrite writes all that is there to the other file, which is the living one then. The old one goes only when the new one lasts.
func (s *Store) rewrite() {
	if s.generation < math.MaxUint64 {
		s.generation++
	}
	old := s.living
	s.living = 1 - old
	s.disk.Clear(s.living)
	s.disk.Append(s.living, forms(s.records()))
	s.disk.Sync(s.living)
	s.disk.Clear(old)
}

// records is the records that are needed for what is there.
func (s *Store) records() [][]byte {
	records := [][]byte{numberRecord(headKind, s.generation)}
	for _, x := range s.inRecordsOrder() {
		records = append(records, blobRecord(x.bytes))
	}
	for _, a := range s.Results() {
		records = append(records, resultRecord(a))
	}
	return append(records, numberRecord(incarnationKind, s.incarnation), []byte{sealKind})
}

func (s *Store) inRecordsOrder() []*blob {
	var all []*blob
	for x := s.ring.after; x != s.ring; x = x.after {
		all = append(all, x)
	}
	slices.SortFunc(all, func(x, y *blob) int { return cmp.Compare(x.place, y.place) })
	return all
}

func forms(records [][]byte) []byte {
	var all [][]byte
	for _, r := range records {
		f, _ := journal.Form(r)
		all = append(all, f)
	}
	return bytes.Join(all, nil)
}
