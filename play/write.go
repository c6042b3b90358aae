package play

import (
	"strconv"
	"strings"

	"murmuration/api"
	"murmuration/words"
)

// names are the words of events, by their kinds' numbers.
var names = [11]string{
	"", "tick", "deliver", "copy", "drop", "inject", "edit", "request", "crash", "restart", "rounds",
}

const digits = "0123456789abcdef"

// Write is the form of the script s.
func Write(s api.Script) ([]byte, api.Errno) {
	if !May(s) {
		return nil, api.ErrArg
	}
	config := []string{"config"}
	for _, n := range configNumbers(s.Config) {
		config = append(config, strconv.Itoa(n))
	}
	out := line(nil, config...)
	out = line(out, "holders", strconv.Itoa(int(s.Holders)))
	out = line(out, "secret", words.Quoted(s.Secret))
	for _, e := range s.Events {
		out = line(out, eventWords(e)...)
	}
	if len(out) > api.MaxBuild {
		return nil, api.ErrLong
	}
	return out, api.OK
}

// line is out, and a line of these words behind it.
func line(out []byte, all ...string) []byte {
	out = append(out, strings.Join(all, " ")...)
	return append(out, '\n')
}

func eventWords(e api.Event) []string {
	name, who := names[e.Kind], strconv.Itoa(e.Node)
	switch e.Kind {
	case api.EventDeliver, api.EventCopy, api.EventDrop, api.EventRounds:
		return []string{name, strconv.Itoa(e.N)}
	case api.EventInject:
		return []string{name, who, words.Quoted(pairs(e.Bytes))}
	case api.EventEdit:
		all := []string{name, who, words.Quoted(string(e.File))}
		for _, f := range e.Sources {
			all = append(all, f.Path, words.Quoted(string(f.Bytes)))
		}
		return all
	case api.EventRequest:
		return []string{name, who, words.Quoted(e.Target)}
	case api.EventCrash:
		return []string{name, who, strconv.Itoa(e.Keep)}
	}
	return []string{name, who}
}

// pairs is bytes as pairs of digits.
func pairs(b []byte) string {
	out := make([]byte, 0, 2*len(b))
	for _, x := range b {
		out = append(out, digits[x>>4], digits[x&15])
	}
	return string(out)
}

// Text is the lines of the report r.
func Text(r api.Report) []byte {
	var out []byte
	for _, code := range r.Codes {
		out = line(out, strconv.Itoa(int(code)))
	}
	for _, e := range r.Ends {
		out = line(out, endWords(e)...)
	}
	return out
}

func endWords(e api.End) []string {
	who := strconv.Itoa(e.Node)
	if !e.Up {
		return []string{who, "down"}
	}
	b := e.Build
	all := []string{who, "up", strconv.Itoa(e.Now), strconv.Itoa(int(b.State)), strconv.Itoa(int(b.Errno)), words.Quoted(b.Target)}
	for _, f := range b.Tree {
		all = append(all, f.Path, words.Quoted(pairs(f.Bytes)))
	}
	return all
}
