package rules

import (
	"strconv"

	"ferryman/api"
)

const mostNumber = 999 // of three digits

// fault is what gives up a text: where it is none, and why.
type fault struct {
	line, col int
	why       api.Errno
}

// word is one of a line, and the column of its first byte.
type word struct {
	text string
	col  int
}

// line is one of a text, with the words of it that are not read yet.
type line struct {
	number int
	words  []word
	behind int // the column behind its last word
}

// eachLine hands on the lines of a text that have words.
func eachLine(text string, take func(line)) {
	l := line{number: 1}
	begin, from := 0, 0 // of the line, and of the word
	remark := false
	for i, c := range text + "\n" { // the last line need not have an end of its own
		if c != ' ' && c != '\t' && c != '#' && c != '\n' {
			continue
		}
		if from < i && !remark {
			l.words = append(l.words, word{text[from:i], from - begin + 1})
			l.behind = i - begin + 1
		}
		from = i + 1
		remark = remark || c == '#'
		if c != '\n' {
			continue
		}
		if len(l.words) > 0 {
			take(l)
		}
		l = line{number: l.number + 1}
		begin, remark = i+1, false
	}
}

// next takes a line's next word.
func (l *line) next() word {
	if len(l.words) == 0 {
		panic(fault{l.number, l.behind, api.ErrLine})
	}
	w := l.words[0]
	l.words = l.words[1:]
	return w
}

// refuse gives up at a word.
func (l *line) refuse(w word, why api.Errno) {
	panic(fault{l.number, w.col, why})
}

// must takes the one word that may stand there.
func (l *line) must(text string) {
	if w := l.next(); w.text != text {
		l.refuse(w, api.ErrLine)
	}
}

// may takes a word that may stand there, and tells whether there is one.
func (l *line) may(text string) bool {
	if len(l.words) == 0 {
		return false
	}
	l.must(text)
	return true
}

// end asks that there is no word left.
func (l *line) end() {
	if len(l.words) > 0 {
		l.refuse(l.words[0], api.ErrLine)
	}
}

// count takes a number.
func (l *line) count() int {
	w := l.next()
	n, _ := strconv.Atoi(w.text)
	// What is read with signs or zeros ahead is written otherwise.
	if n < 0 || n > mostNumber || strconv.Itoa(n) != w.text {
		l.refuse(w, api.ErrLine)
	}
	return n
}

// thing takes what a call of addr reads.
func thing[T any](l *line, parse func(string) (T, int, api.Errno)) T {
	w := l.next()
	v, _, e := parse(w.text)
	if e != api.OK {
		l.refuse(w, e)
	}
	return v
}
