package desk

import (
	"strconv"
	"strings"

	"octant/api"
)

// within reports whether a number is from low to high.
func within(x, low, high int) bool { return low <= x && x <= high }

// isName reports whether a text is a name.
func isName(s string) bool {
	const letters = "abcdefghijklmnopqrstuvwxyz"
	return within(len(s), 1, api.MaxName) && strings.Contains(letters, s[:1]) &&
		strings.Trim(s, letters+"0123456789-") == ""
}

// copied returns a list that shares no memory with another one.
func copied[T any](l []T) []T {
	list := append([]T(nil), l...)
	return list[:len(list):len(list)]
}

// answerOf returns the text of an answer that has some numbers.
func answerOf(parts ...int) string {
	var list []string
	for _, x := range parts {
		list = append(list, strconv.Itoa(x))
	}
	return strings.Join(list, " ")
}
