// Package words reads and writes the words that build files and scripts have in common.
package words

// maxDigits is how many digits a number has at most.
const maxDigits = 6

// Number is the number that a word is: 1 to 6 digits, the first of which is no 0, but of 0 itself.
func Number(word string) (n int, ok bool) {
	if len(word) == 0 || len(word) > maxDigits || word[0] == '0' && word != "0" {
		return 0, false
	}
	for _, r := range word {
		if r < '0' || r > '9' {
			return 0, false
		}
		n = 10*n + int(r-'0')
	}
	return n, true
}

// Quoted is a word in quotes, byte by byte, so that one that is no text stays what it is.
func Quoted(word string) string {
	out := []byte{'"'}
	for i := range len(word) {
		switch b := word[i]; b {
		case '\n':
			out = append(out, '\\', 'n')
		case '"', '\\':
			out = append(out, '\\', b)
		default:
			out = append(out, b)
		}
	}
	return string(append(out, '"'))
}
