package script

import (
	"strconv"
	"strings"
)

// word is a word of a line; of one that is quoted the text is what it says, if it is not wrong.
type word struct {
	text          string
	quoted, wrong bool
}

// words tells the words of a line, up to one that is wrong, or that begins a remark.
func words(line string) func(yield func(word) bool) {
	return func(yield func(word) bool) {
		for {
			line = strings.TrimLeft(line, " \t")
			if line == "" || line[0] == '#' {
				return
			}
			var w word
			if line[0] == '"' {
				w, line = quotedWord(line)
			} else {
				n := wordLength(line)
				w, line = word{text: line[:n]}, line[n:]
			}
			if !yield(w) || w.wrong {
				return
			}
		}
	}
}

func all(line string) []word {
	var l []word
	for w := range words(line) {
		l = append(l, w)
	}
	return l
}

// wordLength is how many bytes stand ahead of the next blank.
func wordLength(line string) int {
	if n := strings.IndexAny(line, " \t"); n >= 0 {
		return n
	}
	return len(line)
}

// quotedWord is the quoted word with which a line begins, and what is behind it.
func quotedWord(line string) (word, string) {
	var said strings.Builder
	for i := 1; i < len(line); i++ {
		switch line[i] {
		case '"':
			w := word{text: said.String(), quoted: true}
			w.wrong = wordLength(line[i+1:]) > 0
			return w, line[i+1:]
		case '\\':
			i++
			if i == len(line) || strings.IndexByte(`"\n`, line[i]) < 0 {
				return word{quoted: true, wrong: true}, ""
			}
			said.WriteByte(escaped(line[i]))
		default:
			said.WriteByte(line[i])
		}
	}
	return word{quoted: true, wrong: true}, ""
}

// escaped is what a byte says behind a \.
func escaped(b byte) byte {
	if b == 'n' {
		return '\n'
	}
	return b
}

// isText tells whether a word is a quoted one that says so many bytes at most.
func (w word) isText(most int) bool {
	return w.quoted && !w.wrong && len(w.text) <= most
}

// number is the number that a word is.
func (w word) number() (uint64, bool) {
	if w.quoted || len(w.text) < 1 || len(w.text) > 18 || len(w.text) > 1 && w.text[0] == '0' {
		return 0, false
	}
	n := uint64(0)
	for i := range len(w.text) {
		digit := w.text[i] - '0'
		if digit > 9 {
			return 0, false
		}
		n = n*10 + uint64(digit)
	}
	return n, true
}

const digits = "0123456789abcdef"

// bytes are the bytes that a word is, two digits each.
func (w word) bytes() (string, bool) {
	n := len(w.text) / 2
	if w.quoted || len(w.text)%2 > 0 || n < 1 || n > maxData {
		return "", false
	}
	var out strings.Builder
	for i := range n {
		high, low := strings.IndexByte(digits, w.text[2*i]), strings.IndexByte(digits, w.text[2*i+1])
		if high < 0 || low < 0 {
			return "", false
		}
		out.WriteByte(byte(high<<4 | low))
	}
	return out.String(), true
}

// printed is words as they are printed.
func printed(l []word) string {
	var out []string
	for _, w := range l {
		if w.quoted {
			out = append(out, quoted(w.text))
		} else {
			out = append(out, w.text)
		}
	}
	return strings.Join(out, " ")
}

func quoted(s string) string {
	return `"` + strings.NewReplacer(`"`, `\"`, `\`, `\\`, "\n", `\n`).Replace(s) + `"`
}

func hex(s string) string {
	var out strings.Builder
	for i := range len(s) {
		out.WriteByte(digits[s[i]>>4])
		out.WriteByte(digits[s[i]&15])
	}
	return out.String()
}

func decimal(n int) string {
	return strconv.Itoa(n)
}
