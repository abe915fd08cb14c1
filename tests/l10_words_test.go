package tests

import (
	"slices"
	"strings"
	"testing"

	"loop.example/reliefmaps/impl"
)

// wantAnswer fails unless a line behind others, which succeed, has an answer, and the last line stays as it was if it is not ok.
func wantAnswer(t *testing.T, ahead []string, line, answer string) {
	t.Helper()
	printed, last := cutOutput(t, script(ahead...))
	text := script(append(slices.Clone(ahead), line)...)
	got, end := cutOutput(t, text)
	if got != printed+answer+"\n" || answer != "ok" && end != last {
		t.Errorf("Execute(%q) returned %q; want %q behind %q", text, got+end, answer, printed)
	}
}

// twoByThree has two rows, three columns and a label.
func twoByThree() []string {
	return []string{"grid 07 12 30/99 00 05", "name 4 4 1 1"}
}

// Promise 111: what is no line of the chapter, one by one.
func TestExecuteUnknownLines(t *testing.T) {
	for _, line := range []string{
		"", " ", "  ", "   ", strings.Repeat(" ", 100), "\t", "\r", "\x00", "\xff", "\u00a0", "-", "0", "1 2", "zzz", "zzz 1", "what", "ok", "no", "quit", "help", "rows 1",
		"Grid 07", "GRID 07", "grid", "Set 0 0 0", "SET 0 0 0", "Turn", "TURN", "MIRROR", "INVERT", "FILL", "Show", "SHOW", "sHOW", "RUN 0 0", "LAND 0", "PEAKS", "SEES 0 0 0",
		"NAME 0 0 1 1", "Map", "MAP", "PLACE 0 0", "peak", "peakss", "lands 0", "see 0 0 0", "names 0 0 1 1", "maps", "places 0 0", "shown", "sho", "s", "turns", "tur", "filled", "water", "raise 1",
		"show\r", "show\t", "show\x00", "\x00show", "show\xff", "\xffshow", "\ufeffshow", "sh\u00f6w", "\u0455how", "show\u00a0", "show\u2028", "sh\x00ow", "turn\r", "map\r", "peaks\r", "\rshow", "\tshow",
		"grid\t07", "grid\r", "grid\x00", "grid/07", "grid07", "\u00a0grid 07", "set\t0 0 0", "set\t0\t0\t0", "set,0,0,0", "land\t0", "land0", "run0 0", "run\u00a00 0",
		"show;show", "show,", "show.", "\"show\"", "show/turn", "#show", "set=0 0 0", "!",
	} {
		wantAnswer(t, nil, line, "what")
		wantAnswer(t, twoByThree(), line, "what")
	}
}

// Promise 111: spaces at the beginning and at the end of a line, and two between words, make empty words.
func TestExecuteSpaces(t *testing.T) {
	for word, many := range words() {
		line := word + strings.Repeat(" 0", many)
		for _, spaced := range []string{" " + line, "  " + line, line + " ", line + "  ", " " + line + " ", strings.Replace(line, word, word+"  ", 1)} {
			wantAnswer(t, twoByThree(), spaced, "what")
		}
		for place, b := range []byte(line) {
			if b == ' ' {
				wantAnswer(t, twoByThree(), line[:place]+" "+line[place:], "what")
			}
		}
	}
}

// Promise 111: an empty word that is asked for is no number.
func TestExecuteEmptyWords(t *testing.T) {
	for _, line := range []string{
		"set   ", "set  0 0", "set 0  0", "set 0 0 ", "set  0 ", "set 0  ", "run  ", "run 0 ", "run  0", "land ", "sees   ", "sees  0 0", "sees 0  0", "sees 0 0 ",
		"name    ", "name  0 1 1", "name 0  1 1", "name 0 0  1", "name 0 0 1 ", "place  ", "place 0 ", "place  0", "grid ", "grid  ", "grid   ",
	} {
		wantAnswer(t, nil, line, "no")
		wantAnswer(t, twoByThree(), line, "no")
	}
}

// Promise 111: each word with up to six numbers.
func TestExecuteFewerAndMoreWords(t *testing.T) {
	for word, asked := range words() {
		for many := range 7 {
			for _, number := range []string{"0", "1", "x", "", "999"} {
				line := word + strings.Repeat(" "+number, many)
				got, _ := cutOutput(t, script(line))
				if (got == "what\n") != (many != asked) {
					t.Errorf("Execute of %q returned %q", line, got)
				}
			}
		}
	}
}

// Promise 111: any two words of the chapter in one line.
func TestExecuteTwoWords(t *testing.T) {
	for _, word := range wordList() {
		for _, other := range append(wordList(), "ok", "zzz", "00") {
			checkScript(t, script(word+" "+other))
			checkScript(t, script(word+other))
		}
	}
}

// Promise 111: lines with one byte replaced, left out or put in.
func TestExecuteOneByteOff(t *testing.T) {
	for _, line := range []string{
		"grid 07 12/30 99", "set 1 2 34", "turn", "mirror", "invert", "fill", "show", "run 1 2", "land 12", "peaks", "sees 1 0 2", "name 1 2 3 4", "map", "place 47 10",
	} {
		ahead := "grid 07 12 30/99 00 05\n"
		for i := range len(line) + 1 {
			for b := range 256 {
				checkScript(t, ahead+line[:i]+string([]byte{byte(b)})+line[i:]+"\nshow\n")
				if i < len(line) {
					checkScript(t, ahead+line[:i]+string([]byte{byte(b)})+line[i+1:]+"\nshow\n")
				}
			}
			if i < len(line) {
				checkScript(t, ahead+line[:i]+line[i+1:]+"\nshow\n")
			}
		}
	}
}

// Promises 111 and 112: what is no line, and what fails, changes nothing, whatever comes ahead.
func TestExecuteNothingChanges(t *testing.T) {
	for _, ahead := range [][]string{nil, twoByThree(), {gridLine(mixed(7, 7))}, nameLines(corners(5)), {gridLine(mixed(1, 7)), "turn", "fill", nameLine(label(8, 8, 1, 1))}} {
		before, last := cutOutput(t, script(ahead...))
		behind, _ := cutOutput(t, script(append(slices.Clone(ahead), "show", "map")...))
		shown := strings.TrimPrefix(behind, before)
		for _, line := range badLines() {
			answer := (&desk{g: [][]int{{0}}}).answerTo(line)
			if answer != "no" && answer != "what" {
				t.Fatalf("%q is a line of the chapter", line)
			}
			text := script(append(slices.Clone(ahead), line, "show", "map")...)
			if got := impl.Execute(text); got != before+answer+"\n"+shown+last {
				t.Errorf("Execute(%q) returned %q; want %q, and no change", text, got, answer)
			}
		}
	}
}
