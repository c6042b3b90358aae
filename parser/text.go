package parser

import (
	"strconv"
	"strings"

	"murmuration/api"
	"murmuration/words"
)

// Text is a build file of the targets l.
func Text(l []api.Target) ([]byte, api.Errno) {
	if !May(l) {
		return nil, api.ErrArg
	}
	var out []byte
	for _, x := range l {
		out = appendLine(out, append([]string{"target", x.Name}, x.Deps...))
		out = appendLine(out, []string{"fuel", strconv.Itoa(x.Fuel)})
		for _, ins := range x.Program {
			out = appendLine(out, wordsOf(ins))
		}
		out = appendLine(out, []string{"end"})
	}
	return out, api.OK
}

func appendLine(out []byte, line []string) []byte {
	out = append(out, strings.Join(line, " ")...)
	return append(out, '\n')
}

// wordsOf is the words of an instruction's line.
func wordsOf(x api.Ins) []string {
	line := []string{names[x.Op]}
	for _, field := range fields[x.Op] {
		line = append(line, fieldWord(x, field))
	}
	return line
}

func fieldWord(x api.Ins, field rune) string {
	switch field {
	case 'A':
		return x.A
	case 'N':
		return strconv.Itoa(x.N)
	case 'M':
		return strconv.Itoa(x.M)
	}
	word := x.B
	if field == 'C' {
		word = x.C
	}
	if x.Op == api.InsSubst {
		return words.Quoted(word)
	}
	return word
}
