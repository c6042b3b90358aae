package parser_test

import (
	"bytes"
	"math"
	"slices"
	"strconv"
	"strings"
	"testing"

	"murmuration/api"
	"murmuration/parser"
	"murmuration/program"
)

func same(l, m []api.Target) bool {
	return slices.EqualFunc(l, m, func(x, y api.Target) bool {
		return x.Name == y.Name && x.Fuel == y.Fuel && slices.Equal(x.Deps, y.Deps) && program.Same(x.Program, y.Program)
	})
}

const all = `
target a b c_-9 # remark
fuel 300
copy src/x out/y
concat a b c
slice a b 0 2000
subst a "x y" ""
sort a
pack a b
unpack a b
jump 12
ifempty a 3
ifsame a b 0
fail
subst a "\n\"\\" b
end
"target" z0
fuel 0
end
`

var parsed = []api.Target{
	{Name: "a", Deps: []string{"b", "c_-9"}, Fuel: 300, Program: []api.Ins{
		{Op: api.InsCopy, A: "src/x", B: "out/y"}, {Op: api.InsConcat, A: "a", B: "b", C: "c"}, {Op: api.InsSlice, A: "a", B: "b", N: 0, M: 2000},
		{Op: api.InsSubst, A: "a", B: "x y"}, {Op: api.InsSort, A: "a"}, {Op: api.InsPack, A: "a", B: "b"}, {Op: api.InsUnpack, A: "a", B: "b"},
		{Op: api.InsJump, N: 12}, {Op: api.InsIfEmpty, A: "a", N: 3}, {Op: api.InsIfSame, A: "a", B: "b"}, {Op: api.InsFail}, {Op: api.InsSubst, A: "a", B: "\n\"\\", C: "b"},
	}},
	{Name: "z0"},
}

// P14.1: a build file with everything in it.
func TestParse(t *testing.T) {
	l, at, e := parser.Parse([]byte(all))
	if e != api.OK || at != 0 || !same(l, parsed) {
		t.Error(l, at, e)
	}
	for _, b := range []string{"", "\n#\n"} {
		if l, at, e := parser.Parse([]byte(b)); len(l) != 0 || at != 0 || e != api.OK {
			t.Errorf("%q: %v, %d, %d", b, l, at, e)
		}
	}
}

func lines(text string) []byte { return []byte(strings.ReplaceAll(text, "; ", "\n")) }

func targets(n int) (text string) {
	for i := range n {
		text += "target t" + strconv.Itoa(i) + "; fuel 1; end; "
	}
	return text
}

// P14.1: faults, each with its line.
func TestFaults(t *testing.T) {
	for text, want := range map[string]struct {
		e  api.Errno
		at int
	}{
		"target a; fuel 9; copy src/x out/x; end": {api.OK, 0},
		"target a; end":                           {api.ErrForm, 2},
		"target a; copy a b":                      {api.ErrForm, 2},
		"target A":                                {api.ErrArg, 1},
		"target":                                  {api.ErrForm, 1},
		"target \"\"":                             {api.ErrArg, 1},
		"target abcdefghij":                       {api.ErrShort, 0},
		"target abcdefghijk":                      {api.ErrArg, 1},
		"target a a":                              {api.ErrShort, 0},
		"target a/b":                              {api.ErrArg, 1},
		"target a B":                              {api.ErrArg, 1},
		"target a b c b":                          {api.ErrArg, 1},
		"target a b c d e f":                      {api.ErrShort, 0},
		"target a b c d e f g":                    {api.ErrArg, 1},
		"target ä":                                {api.ErrArg, 1},
		"targets a":                               {api.ErrForm, 1},
		"fuel 9":                                  {api.ErrForm, 1},
		"end":                                     {api.ErrForm, 1},
		"\"\"":                                    {api.ErrForm, 1},
		"target a; fuel":                          {api.ErrForm, 2},
		"target a; fuel 9 9":                      {api.ErrForm, 2},
		"target a; fuel x":                        {api.ErrForm, 2},
		"target a; fuel 09":                       {api.ErrForm, 2},
		"target a; fuel 00":                       {api.ErrForm, 2},
		"target a; fuel -1":                       {api.ErrForm, 2},
		"target a; fuel +1":                       {api.ErrForm, 2},
		"target a; fuel \"\"":                     {api.ErrForm, 2},
		"target a; fuel ٣":                        {api.ErrForm, 2},
		"target a; fuel 1000000":                  {api.ErrForm, 2},
		"target a; fuel 999999; end":              {api.ErrArg, 3},
		"target a; fuel 20001; # x; end":          {api.ErrArg, 4},
		"target a; fuel 20000; end":               {api.OK, 0},
		"target a; fuel 9; fuel 9":                {api.ErrForm, 3},
		"target a; fuel 9; target b":              {api.ErrForm, 3},
		"target a; fuel 9; end end":               {api.ErrForm, 3},
		"target a; fuel 9; nothing":               {api.ErrForm, 3},
		"target a; fuel 9; \"\"":                  {api.ErrForm, 3},
		"target a; fuel 9; Copy a b":              {api.ErrForm, 3},
		"target a; fuel 9; copy a":                {api.ErrForm, 3},
		"target a; fuel 9; copy a b c":            {api.ErrForm, 3},
		"target a; fuel 9; fail a":                {api.ErrForm, 3},
		"target a; fuel 9; jump a":                {api.ErrForm, 3},
		"target a; fuel 9; slice a b 1":           {api.ErrForm, 3},
		"target a; fuel 9; slice a b 1 01":        {api.ErrForm, 3},
		"target a; fuel 9; slice a b 2001 1; end": {api.ErrArg, 4},
		"target a; fuel 9; copy A b; sort a; end": {api.ErrArg, 5},
		"target a; fuel 9; copy A b; x":           {api.ErrForm, 4},
		"target a; fuel 9; jump 2; end":           {api.ErrArg, 4},
		"target a; fuel 9; subst a \"\" b; end":   {api.ErrArg, 4},
		"target a; fuel 9; sort a":                {api.ErrShort, 0},
		"target a; fuel 9":                        {api.ErrShort, 0},
		"target a; fuel 9; end; target a":         {api.ErrTwice, 4},
		"target a; fuel 9; end; target a B":       {api.ErrArg, 4},
		"target a; fuel 9; end; target b; \"":     {api.ErrForm, 5},
		"end; \"":                                 {api.ErrForm, 2},
		targets(20):                               {api.OK, 0},
		targets(20) + "target x":                  {api.ErrArg, 61},
		targets(20) + "target t1":                 {api.ErrArg, 61},
		targets(20) + "target":                    {api.ErrForm, 61},
	} {
		l, at, e := parser.Parse(lines(text))
		if e != want.e || at != want.at || e != api.OK && l != nil {
			t.Errorf("%q: %v, %d, %d", text, l, at, e)
		}
	}
	if l, at, e := parser.Parse(make([]byte, api.MaxBuild+1)); l != nil || at != 0 || e != api.ErrLong {
		t.Error(l, at, e)
	}
	long := "target a; fuel 9; " + strings.Repeat("fail; ", 30)
	if _, at, e := parser.Parse(lines(long + "end")); at != 0 || e != api.OK {
		t.Error("thirty instructions", at, e)
	}
	if _, at, e := parser.Parse(lines(long + "fail; end")); at != 34 || e != api.ErrArg {
		t.Error("thirty-one instructions", at, e)
	}
}

// P14.2: which targets may be.
func TestMay(t *testing.T) {
	if !parser.May(nil) || !parser.May(parsed) {
		t.Error("right ones")
	}
	many := make([]api.Target, 21)
	for i := range many {
		many[i].Name = "t" + strconv.Itoa(i)
	}
	if !parser.May(many[:20]) {
		t.Error("twenty")
	}
	for i, l := range [][]api.Target{
		many, {{}}, {{Name: "A"}}, {{Name: "abcdefghijk"}}, {{Name: "a"}, {Name: "a"}}, {{Name: "a", Deps: []string{"b", "b"}}}, {{Name: "a", Deps: []string{""}}},
		{{Name: "a", Deps: []string{"b", "c", "d", "e", "f", "g"}}}, {{Name: "a", Fuel: -1}}, {{Name: "a", Fuel: 20001}}, {{Name: "a", Fuel: math.MinInt}}, {{Name: "a", Program: []api.Ins{{}}}}, {{Name: "a", Program: make([]api.Ins, 31)}},
		{{Name: "a\xff"}}, {{Name: "a b"}},
	} {
		if parser.May(l) {
			t.Errorf("wrong %d", i)
		}
		if b, e := parser.Text(l); b != nil || e != api.ErrArg {
			t.Errorf("Text of wrong %d: %d", i, e)
		}
	}
}

// P14.2: the text, word by word; it is read again.
func TestText(t *testing.T) {
	want := `target a b c_-9
fuel 300
copy src/x out/y
concat a b c
slice a b 0 2000
subst a "x y" ""
sort a
pack a b
unpack a b
jump 12
ifempty a 3
ifsame a b 0
fail
subst a "\n\"\\" "b"
end
target z0
fuel 0
end
`
	b, e := parser.Text(parsed)
	if e != api.OK || string(b) != want {
		t.Errorf("%s, %d", b, e)
	}
	l, _, e := parser.Parse(b)
	if e != api.OK || !same(l, parsed) {
		t.Error(l, e)
	}
	if b, e := parser.Text(nil); len(b) != 0 || e != api.OK {
		t.Error(b, e)
	}
	odd := []api.Target{{Name: "a", Program: []api.Ins{{Op: api.InsSubst, A: "a", B: "\xff\x00é", C: "#\t"}}}}
	b, e = parser.Text(odd)
	if e != api.OK || !bytes.Equal(b, []byte("target a\nfuel 0\nsubst a \"\xff\x00é\" \"#\t\"\nend\n")) {
		t.Errorf("%q, %d", b, e)
	}
}
