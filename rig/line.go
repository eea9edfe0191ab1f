package rig

import (
	"strconv"
	"strings"

	"thatch/api"
)

// The words ahead of a crash's lists.
const (
	keepWord   = "keep"
	prefixWord = "prefix"
)

// wayOf is the kind of act by which is asked.
func wayOf(is func(w way) bool) (way, bool) {
	for _, w := range ways() {
		if is(w) {
			return w, true
		}
	}
	return way{}, false
}

// Print is the lines of acts.
func Print(l []api.Act) (string, api.Errno) {
	if len(l) > api.MaxActs {
		return "", api.ErrLong
	}
	var text []byte
	for _, a := range l {
		w, is := wayOf(func(w way) bool { return w.kind == a.Kind })
		if !is || hasMore(a, w.fields) {
			return "", api.ErrArg
		}
		text = append(text, w.word...)
		for _, letter := range w.fields {
			text = appendField(text, a, letter)
		}
		text = append(text, '\n')
	}
	return string(text), api.OK
}

// hasMore tells whether an act has something that its line does not have.
func hasMore(a api.Act, fields string) bool {
	for _, letter := range fields {
		switch letter {
		case 'a':
			a.At = 0
		case 'n':
			a.N = 0
		case 'b':
			a.B = 0
		case 'z':
			a.Zone = 0
		case 'k':
			a.Keep = nil
		case 'p':
			a.Prefix = nil
		}
	}
	return a.At != 0 || a.N != 0 || a.B != 0 || a.Zone != 0 || len(a.Keep) > 0 || len(a.Prefix) > 0
}

// appendNumber appends a blank and a number.
func appendNumber(text []byte, n int) []byte {
	return strconv.AppendInt(append(text, ' '), int64(n), 10)
}

// appendWord appends a blank and a word.
func appendWord(text []byte, word string) []byte {
	return append(append(text, ' '), word...)
}

// appendField appends what an act has of a field.
func appendField(text []byte, a api.Act, letter rune) []byte {
	switch letter {
	case 'a':
		return appendNumber(text, a.At)
	case 'n':
		return appendNumber(text, a.N)
	case 'b':
		return appendNumber(text, int(a.B))
	case 'z':
		return appendNumber(text, a.Zone)
	case 'k':
		if len(a.Keep) > 0 {
			text = appendWord(text, keepWord)
		}
		for _, k := range a.Keep {
			text = appendNumber(appendNumber(text, k.Sector), k.Back)
		}
	case 'p':
		if len(a.Prefix) > 0 {
			text = appendWord(text, prefixWord)
		}
		for _, n := range a.Prefix {
			text = appendNumber(text, n)
		}
	}
	return text
}

// Parse is the acts of lines; where a line is no act's, its number.
func Parse(text string) ([]api.Act, int, api.Errno) {
	var acts []api.Act
	lines := 0
	for text != "" {
		line, rest, ended := strings.Cut(text, "\n")
		a, is := actOf(line)
		if !is || !ended {
			return nil, lines, api.ErrText
		}
		if lines < api.MaxActs {
			acts = append(acts, a)
		}
		lines++
		text = rest
	}
	if lines > api.MaxActs {
		return nil, 0, api.ErrLong
	}
	return acts, 0, api.OK
}

// actOf is the act of a line.
func actOf(line string) (api.Act, bool) {
	words := strings.Split(line, " ")
	w, is := wayOf(func(w way) bool { return w.word == words[0] })
	if !is {
		return api.Act{}, false
	}
	a := api.Act{Kind: w.kind}
	words = words[1:]
	for _, letter := range w.fields {
		words, is = takeField(&a, letter, words)
		if !is {
			return api.Act{}, false
		}
	}
	return a, len(words) == 0
}

// takeField lets an act have what the first words say of a field; it tells which
// words are left.
func takeField(a *api.Act, letter rune, words []string) ([]string, bool) {
	switch letter {
	case 'k', 'p':
		return takeList(a, letter, words)
	}
	if len(words) == 0 {
		return nil, false
	}
	n, is := number(words[0])
	switch letter {
	case 'a':
		a.At = n
	case 'n':
		a.N = n
	case 'b':
		a.B = byte(n)
		is = is && int(a.B) == n
	case 'z':
		a.Zone = n
	}
	return words[1:], is
}

// takeList does so with a list, which need not be there.
func takeList(a *api.Act, letter rune, words []string) ([]string, bool) {
	word := keepWord
	if letter == 'p' {
		word = prefixWord
	}
	if len(words) == 0 || words[0] != word {
		return words, true
	}
	l, words := numbers(words[1:])
	if letter == 'p' {
		a.Prefix = l
		return words, len(l) > 0
	}
	for i := 0; i+1 < len(l); i += 2 {
		a.Keep = append(a.Keep, api.Keep{Sector: l[i], Back: l[i+1]})
	}
	return words, len(l) > 0 && len(l)%2 == 0
}

// numbers is the numbers that the first words say, and the words behind them.
func numbers(words []string) ([]int, []string) {
	var l []int
	for i, word := range words {
		n, is := number(word)
		if !is {
			return l, words[i:]
		}
		l = append(l, n)
	}
	return l, nil
}

// number is the number that a word says. Of each number there is one word alone.
func number(word string) (int, bool) {
	n, e := strconv.Atoi(word)
	return n, e == nil && strconv.Itoa(n) == word
}
