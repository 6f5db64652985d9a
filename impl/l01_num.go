package impl

import (
	"strconv"
	"strings"
)

const mostNumber = 999999999

// Digits returns the decimal representation of n.
func Digits(n int) string { return strconv.Itoa(n) }

// Number returns the integer from 0 to 999999999 that Digits writes as s.
func Number(s string) (int, bool) {
	// The results are unnamed, so a recovered panic leaves them 0 and false.
	defer func() { _ = recover() }()
	return mustRange(mustInt(s), 0, mostNumber), true
}

// IntText returns the integer that Digits writes as s.
func IntText(s string) (int, bool) {
	// The results are unnamed, so a recovered panic leaves them 0 and false.
	defer func() { _ = recover() }()
	return mustInt(s), true
}

// mustInt panics if s is not the Digits of an integer.
func mustInt(s string) int {
	n, err := strconv.Atoi(s)
	// Atoi alone would accept a '+', leading zeros and "-0".
	if err != nil || Digits(n) != s {
		panic("not the digits of an integer")
	}
	return n
}

// mustRange panics if n is not from low to high.
func mustRange(n int, low int, high int) int {
	if n < low || n > high {
		panic("number out of range")
	}
	return n
}

// Parts splits s at every occurrence of by.
func Parts(s string, by byte) []string {
	// string(by) would be the UTF-8 encoding of by, which has two bytes from 128.
	return strings.Split(s, string([]byte{by}))
}

// Joined concatenates the elements of list with by between them.
func Joined(list []string, by string) string { return strings.Join(list, by) }
