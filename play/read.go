package play

import (
	"math"
	"strings"

	"murmuration/api"
	"murmuration/lexer"
	"murmuration/words"
)

// heads is how many lines stand ahead of the events.
const heads = 3

// Read is the script that b tells.
func Read(b []byte) (s api.Script, at int, e api.Errno) {
	lines, at, e := lexer.Lines(b)
	if e != api.OK {
		return api.Script{}, at, e
	}
	for i, l := range lines {
		if !take(&s, i, l.Words) {
			return api.Script{}, l.N, api.ErrForm
		}
	}
	if len(lines) < heads {
		return api.Script{}, 0, api.ErrShort
	}
	if !May(s) {
		return api.Script{}, 0, api.ErrArg
	}
	return s, 0, api.OK
}

// take takes in the i-th line, and tells whether it is as told.
func take(s *api.Script, i int, line []string) bool {
	switch i {
	case 0:
		return takeConfig(s, line)
	case 1:
		return takeHolders(s, line)
	case 2:
		return takeSecret(s, line)
	}
	e, ok := event(line)
	if !ok || len(s.Events) >= api.MaxEvents {
		return false
	}
	s.Events = append(s.Events, e)
	return true
}

func takeConfig(s *api.Script, line []string) bool {
	c := &s.Config
	fields := []*int{
		&c.Nodes, &c.Window, &c.Time, &c.Budget, &c.Lease, &c.Wait,
		&c.Cap, &c.Every, &c.Timeout, &c.Suspect, &c.Gossip, &c.Quota,
	}
	return line[0] == "config" && numbers(line[1:], fields...)
}

func takeHolders(s *api.Script, line []string) bool {
	n := 0
	if line[0] != "holders" || !numbers(line[1:], &n) || n > math.MaxUint16 {
		return false
	}
	s.Holders = uint16(n)
	return true
}

func takeSecret(s *api.Script, line []string) bool {
	if line[0] != "secret" || len(line) != 2 {
		return false
	}
	s.Secret = line[1]
	return true
}

// numbers puts the numbers that words are into fields, and tells whether they are just as many.
func numbers(line []string, fields ...*int) bool {
	if len(line) != len(fields) {
		return false
	}
	for i, word := range line {
		n, ok := words.Number(word)
		if !ok {
			return false
		}
		*fields[i] = n
	}
	return true
}

// event is the one that a line tells.
func event(line []string) (e api.Event, ok bool) {
	for kind, name := range names {
		if kind > 0 && name == line[0] {
			e.Kind = uint8(kind)
		}
	}
	rest := line[1:]
	switch e.Kind {
	case api.EventTick, api.EventRestart:
		ok = numbers(rest, &e.Node)
	case api.EventDeliver, api.EventCopy, api.EventDrop, api.EventRounds:
		ok = numbers(rest, &e.N)
	case api.EventCrash:
		ok = numbers(rest, &e.Node, &e.Keep)
	case api.EventInject, api.EventEdit, api.EventRequest:
		ok = len(rest) >= 2 && numbers(rest[:1], &e.Node) && takeWords(&e, rest[1:])
	}
	return e, ok
}

// takeWords takes in the words of an inject, an edit or a request.
func takeWords(e *api.Event, line []string) (ok bool) {
	switch e.Kind {
	case api.EventInject:
		e.Bytes, ok = bytesOf(line[0])
		return ok && len(line) == 1
	case api.EventRequest:
		e.Target = line[0]
		return len(line) == 1
	}
	e.File = []byte(line[0])
	files := line[1:]
	if len(files)%2 != 0 {
		return false
	}
	for i := 0; i < len(files); i += 2 {
		e.Sources = append(e.Sources, api.File{Path: files[i], Bytes: []byte(files[i+1])})
	}
	return true
}

// bytesOf is the bytes that pairs of digits are.
func bytesOf(word string) ([]byte, bool) {
	if len(word)%2 != 0 {
		return nil, false
	}
	var b []byte
	for i := 0; i < len(word); i += 2 {
		high, low := strings.IndexByte(digits, word[i]), strings.IndexByte(digits, word[i+1])
		if high < 0 || low < 0 {
			return nil, false
		}
		b = append(b, byte(high<<4|low))
	}
	return b, true
}
