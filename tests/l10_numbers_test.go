package tests

import (
	"fmt"
	"strconv"
	"strings"
	"testing"
)

// asked is a line with places for numbers, and how many each of them has room for, from the least on.
type asked struct {
	line        string
	least, room []int
}

// withNumbers has all lines that ask for numbers, for a grid of 2 rows and 3 columns and no label ahead.
func withNumbers() []asked {
	return []asked{
		{"set %s %s %s", []int{0, 0, 0}, []int{2, 3, 100}},
		{"run %s %s", []int{0, 0}, []int{2, 3}},
		{"land %s", []int{0}, []int{100}},
		{"sees %s %s %s", []int{0, 0, 0}, []int{2, 3, 3}},
		{"name %s %s %s %s", []int{0, 0, 1, 1}, []int{10, 10, 6, 10}},
		{"place %s %s", []int{0, 0}, []int{104, 104}},
	}
}

// fillIn writes a line with a word at one of its places, and with numbers that fit at all others.
func (a asked) fillIn(place int, word string) string {
	var all []any
	for k := range a.room {
		if k == place {
			all = append(all, word)
		} else {
			all = append(all, strconv.Itoa(a.least[k]))
		}
	}
	return fmt.Sprintf(a.line, all...)
}

const ahead = "grid 07 12 30/99 00 05\n"

// Promise 111: all numbers, with each number of digits, at each place of each line.
func TestExecuteAllNumbers(t *testing.T) {
	for _, a := range withNumbers() {
		for place := range a.room {
			for n := range 1000 {
				for digits := len(strconv.Itoa(n)); digits <= 3; digits++ {
					line := a.fillIn(place, fmt.Sprintf("%0*d", digits, n))
					checkScript(t, ahead+line+"\nshow\nmap\n")
					got, _ := cutOutput(t, ahead+line+"\n")
					if fits := a.least[place] <= n && n < a.room[place]; (got == "ok\nno\n") == fits {
						t.Errorf("Execute of %q returned %q", line, got)
					}
				}
			}
		}
	}
}

// Promise 111: what is no number, at each place of each line.
func TestExecuteNoNumbers(t *testing.T) {
	for _, word := range []string{
		"", "-", "+", "-0", "+0", "-1", "+1", "-00", "00-", "0-", "1-", "0000", "0001", "0005", "00000000", "1000", "9999", "00009999", "10000", "65536", "4294967296", "4294967297",
		"18446744073709551616", "18446744073709551617", "99999999999999999999", "x", "o", "O", "l", "I", "0x1", "0x", "x1", "1x", "1e0", "1E1", "0b1", "0o1", "0b", "1.", "1.0", ".1", "0.", "0,", "1,0", "1_0", "0_1", "1'0",
		"\x00", "0\x00", "\x001", "1\r", "0\t", "\t0", "\v0", "\u00a00", "0\u00a0", "\xff", "0\xff", "\xb1", "\u0660", "\u0661", "\u06f1", "\u0967", "\uff10", "\uff11", "\u00b2", "\u00bd", "\u2460", "\ufeff1", "1\u0301",
		":", "/", "0:", "0/", ":0", "/0", "1:", "1/", "$1", "(1)", "'1'", "\"1\"", "one", "none", "nan", "inf", "true", strings.Repeat("0", 400), strings.Repeat("1", 400),
	} {
		for _, a := range withNumbers() {
			for place := range a.room {
				wantAnswer(t, []string{"grid 07 12 30/99 00 05"}, a.fillIn(place, word), "no")
				wantAnswer(t, nil, a.fillIn(place, word), "no")
			}
		}
	}
}

// Promise 111: words of any two bytes, and of any three of some.
func TestExecuteBytesOfNumbers(t *testing.T) {
	for a := range 256 {
		for b := range 256 {
			checkScript(t, "place "+string([]byte{byte(a), byte(b)})+" 10\n")
		}
	}
	some := []byte("019-+/:. x\x00\r\n\xff\xb1")
	for _, a := range some {
		for _, b := range some {
			for _, c := range some {
				checkScript(t, "place 10 "+string([]byte{a, b, c})+"\n")
				checkScript(t, "land "+string([]byte{a, b, c})+"\n")
			}
		}
	}
}

// Promise 111: leading zeros, written out.
func TestExecuteLeadingZeros(t *testing.T) {
	wantOutput(t, ahead+"set 01 002 008\nset 001 00 099\nshow\nrun 001 000\nland 008\nland 0008\nsees 000 01 002\nname 009 00 05 009\nplace 047 010\nplace 0047 10\n",
		"ok", "ok", "ok", "07 12 30/99 00 08", "3 4", "4 2 0", "no", "yes", "ok", "C12db", "no", sizes(2, 3, 1))
}

// Promise 111: numbers that fit in another of the limits only.
func TestExecuteNumbersOfOtherLimits(t *testing.T) {
	wantOutput(t, ahead+"set 2 1 5\nset 1 3 5\nset 1 2 100\nrun 2 1\nrun 1 3\nsees 2 1 1\nsees 1 3 1\nsees 1 1 3\nset 1 2 9\nrun 1 2\nsees 1 2 2\n",
		"ok", "no", "no", "no", "no", "no", "no", "no", "no", "ok", "5 4", "yes", sizes(2, 3, 0))
	wantOutput(t, "name 10 9 1 1\nname 9 10 1 1\nname 9 9 0 1\nname 9 9 6 1\nname 9 9 1 0\nname 9 9 1 10\nname 9 9 5 9\n",
		"no", "no", "no", "no", "no", "no", "ok", sizes(1, 1, 1))
	wantOutput(t, "place 103 0\nplace 104 0\nplace 0 103\nplace 0 104\nland 99\nland 100\n", "A26bb", "no", "Z1cc", "no", "0 0 0", "no", sizes(1, 1, 0))
}
