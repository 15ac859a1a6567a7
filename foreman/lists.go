package foreman

import (
	"strconv"
	"strings"

	"skewbald/api"
)

// each returns a new list of what is made of each thing of a list.
func each[T, U any](list []T, of func(T) U) []U {
	var all []U
	for _, t := range list {
		all = append(all, of(t))
	}
	return all
}

// with returns a new list that has one thing more, so that the old one stays as it is if the line fails.
func with[T any](list []T, t T) []T {
	return append(handedOn(list), t)
}

// handedOn returns a list with no room behind it.
func handedOn[T any](list []T) []T {
	n := len(list)
	return list[:n:n]
}

// The layers answer with one number, two of them, a span, or whether something is so; all of these are told as lists.

func one(n int, e api.Errno) ([]int, api.Errno) { return []int{n}, e }

func pair(n, other int, e api.Errno) ([]int, api.Errno) { return []int{n, other}, e }

func ends(s api.Span, e api.Errno) ([]int, api.Errno) { return []int{s.Low, s.High}, e }

func truth(so bool, e api.Errno) ([]int, api.Errno) {
	if so {
		return []int{1}, e
	}
	return []int{0}, e
}

// answer returns some numbers as they are told.
func answer(numbers ...int) string {
	if len(numbers) == 0 {
		return hyphen
	}
	return strings.Join(each(numbers, strconv.Itoa), " ")
}
