package desk

import (
	"iter"
	"slices"
	"strings"

	"octant/api"
)

// reason is why a line is left.
type reason struct{ errno api.Errno }

// noReason is that of a line that is done.
func noReason() reason { return reason{} }

// need leaves a line with an error, unless something holds that must.
func need(holds bool, e api.Errno) {
	if !holds {
		panic(reason{e})
	}
}

// done does a line, which may be one that asks or not, and returns its answer, and why it was left.
func (b *books) done(line string, mayAsk bool) (answer string, why reason) {
	defer func() {
		if left, is := recover().(reason); is {
			why = left
		}
	}()
	need(len(line) <= api.DeskLine, api.ErrDeskLine)
	line = strings.Clone(line) // parts of it are kept, and no argument is
	words := slices.Collect(tokens(line))
	if question, asks := questions()[words[0]]; asks && mayAsk {
		return question.do(b, question.hear(words[1:])), noReason()
	}
	return b.changedBy(words, line), noReason()
}

// changedBy does a line that changes something, and returns its answer.
func (b *books) changedBy(words []string, line string) string {
	change, is := changes()[words[0]]
	need(is, api.ErrDeskLine)
	x := change.hear(words[1:])
	need(len(b.journal) < api.DeskJournal, api.ErrFull)
	answer := change.do(b, x)
	b.journal = append(b.journal, line)
	return answer
}

// tokens produces those of a line: at least one.
func tokens(line string) iter.Seq[string] {
	return func(yield func(string) bool) {
		for token := range strings.SplitSeq(line, " ") {
			need(token != "", api.ErrDeskLine)
			if !yield(token) {
				return
			}
		}
	}
}

// task is what lines with a word do.
type task struct {
	letters string // what the document's tables call the tokens behind the word
	more    string // and those that may lack behind them
	do      func(b *books, x told) string
}

// textLetters are those of tokens that are texts: all others are of numbers.
const textLetters = "MWZ"

// told is what the tokens of a line are, by their letters.
type told struct {
	numbers map[byte]int
	texts   map[byte]string
}

// hear returns what tokens are.
func (t task) hear(words []string) told {
	letters := t.letters
	if len(words) > len(letters) {
		letters += t.more
	}
	need(len(words) == len(letters), api.ErrDeskLine)
	x := told{map[byte]int{}, map[byte]string{}}
	for i, word := range words {
		if letter := letters[i]; strings.IndexByte(textLetters, letter) >= 0 {
			x.texts[letter] = word
		} else {
			x.numbers[letter] = numberOf(word)
		}
	}
	return x
}

// mostDigits is how many a number of a line can have.
const mostDigits = 6

// numberOf returns the number that a token is.
func numberOf(word string) int {
	need(len(word) <= mostDigits && (word == "0" || word[0] != '0'), api.ErrDeskLine)
	number := 0
	for i := range len(word) {
		need(within(int(word[i]), '0', '9'), api.ErrDeskLine)
		number = 10*number + int(word[i]-'0')
	}
	return number
}
