package store

import (
	"bytes"

	"murmuration/api"
)

// add makes a blob be there that is not, as the last one in both orders.
func (s *Store) add(name api.Digest, b []byte) {
	x := &blob{name: name, bytes: bytes.Clone(b), keys: map[api.Digest]struct{}{}}
	s.blobs[name] = x
	s.used += len(b)
	s.needed += blobSize(len(b))
	s.stamp(x)
	s.link(x)
}

// remove takes a blob away, and all results whose root it is.
func (s *Store) remove(x *blob) {
	for key := range x.keys {
		delete(s.results, key)
	}
	delete(s.blobs, x.name)
	s.used -= len(x.bytes)
	s.needed -= blobSize(len(x.bytes)) + len(x.keys)*resultSize
	unlink(x)
}

// setResult makes a result be there whose blob is.
func (s *Store) setResult(a api.Attest) {
	if old, known := s.results[a.Key]; known {
		delete(s.blobs[old.Root].keys, a.Key)
		s.needed -= resultSize
	}
	s.results[a.Key] = a
	s.blobs[a.Root].keys[a.Key] = struct{}{}
	s.needed += resultSize
}

// use makes a blob the last one in the order of use.
func (s *Store) use(x *blob) {
	unlink(x)
	s.link(x)
}

// stamp makes a blob the last one in the order of the records.
func (s *Store) stamp(x *blob) {
	s.written++
	x.place = s.written
}

func (s *Store) link(x *blob) {
	last := s.ring.before
	last.after, x.before = x, last
	x.after, s.ring.before = s.ring, x
}

func unlink(x *blob) {
	x.before.after, x.after.before = x.after, x.before
}
