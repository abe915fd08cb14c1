package tests

import (
	"strings"
	"testing"

	"loop.example/reliefmaps/impl"
)

// Promise 110: scripts without a line.
func TestExecuteNoLine(t *testing.T) {
	for _, text := range []string{"", " ", "show", "turn", "grid 07 12", "name 0 0 1 1", "zzz", "\r", "\x00", "show show", strings.Repeat("x", 600)} {
		wantOutput(t, text, "rows 1 columns 1 labels 0")
	}
}

// Promise 110: scripts of newlines, with an answer for each.
func TestExecuteNewlines(t *testing.T) {
	wantOutput(t, "\n", "what", "rows 1 columns 1 labels 0")
	wantOutput(t, "\n\n", "what", "what", "rows 1 columns 1 labels 0")
	wantOutput(t, "\n\n\n", "what", "what", "what", "rows 1 columns 1 labels 0")
	wantOutput(t, "\nshow\n\nshow\n", "what", "00", "what", "00", "rows 1 columns 1 labels 0")
	wantOutput(t, "\r\n", "what", "rows 1 columns 1 labels 0")
	wantOutput(t, "show\r\nshow\n", "what", "00", "rows 1 columns 1 labels 0")
	wantOutput(t, "show\rshow\n", "what", "rows 1 columns 1 labels 0")
}

// Promise 110: what is printed at first, and that it is the same after any script.
func TestExecuteBegins(t *testing.T) {
	for range 2 {
		wantOutput(t, "show\npeaks\nland 0\nland 1\nrun 0 0\nsees 0 0 0\n", "00", "0:0", "1 1 0", "0 0 0", "0", "yes", "rows 1 columns 1 labels 0")
		wantOutput(t, "grid 07 12/30 99/05 06\nname 1 1 1 1\nname 2 2 2 2\n", "ok", "ok", "ok", "rows 3 columns 2 labels 2")
	}
}

// Promise 110: no output is empty, and each one ends with a newline.
func TestExecuteSomeOutput(t *testing.T) {
	for _, text := range sampleScripts() {
		cutOutput(t, text)
	}
}

// Promise 110: what follows the last newline is ignored.
func TestExecuteRest(t *testing.T) {
	for _, text := range sampleScripts() {
		want := impl.Execute(text)
		for _, rest := range []string{"x", " ", "show", "turn", "grid 07 12", "set 0 0 5", "name 3 3 1 1", "zzz", "\x00", "\r", "show ", strings.Repeat("y", 600-len(text))} {
			if len(text)+len(rest) > 600 {
				continue
			}
			if got := impl.Execute(text + rest); got != want {
				t.Errorf("Execute(%q) returned %q; want %q, as without %q", text+rest, got, want, rest)
			}
		}
	}
}

// Promise 110: scripts cut off at each byte.
func TestExecuteCutOff(t *testing.T) {
	text := "grid 07 12/30 99\nturn\nshow\nset 0 0 5\nname 1 2 3 4\nzzz\n\nmap\nland 100\npeaks\n"
	for end := range len(text) + 1 {
		lines := text[:strings.LastIndex(text[:end], "\n")+1]
		if got, want := impl.Execute(text[:end]), impl.Execute(lines); got != want {
			t.Errorf("Execute(%q) returned %q; want %q", text[:end], got, want)
		}
		checkScript(t, text[:end])
	}
}

// Promise 110: scripts of about MaxScript bytes.
func TestExecuteLength(t *testing.T) {
	shows := strings.Repeat("show\n", 120)
	wantOutput(t, shows, strings.Repeat("00\n", 120)+"rows 1 columns 1 labels 0")
	wantOutput(t, shows[5:]+"turn\n", strings.Repeat("00\n", 119)+"ok\nrows 1 columns 1 labels 0")
	wantOutput(t, shows[:599], strings.Repeat("00\n", 119)+"rows 1 columns 1 labels 0")
	wantOutput(t, strings.Repeat("\n", 600), strings.Repeat("what\n", 600)+"rows 1 columns 1 labels 0")
	wantOutput(t, strings.Repeat("é", 300), "rows 1 columns 1 labels 0")
	wantOutput(t, strings.Repeat(" ", 599)+"\n", "what", "rows 1 columns 1 labels 0")
	wantOutput(t, strings.Repeat("x", 599)+"\n", "what", "rows 1 columns 1 labels 0")
	for _, text := range []string{
		shows + "\n", shows + "x", shows + " ", "\n" + shows, shows[:599] + "e\n", strings.Repeat("\n", 601), strings.Repeat(" ", 601), strings.Repeat("x", 601),
		strings.Repeat("é", 300) + "\n", strings.Repeat("é", 301), strings.Repeat("\x00", 601), strings.Repeat("\xff", 601), shows + shows,
		"grid 07\n" + strings.Repeat("x", 593), strings.Repeat("show\n", 100000), strings.Repeat("x", 1<<20), "too long\n" + shows,
	} {
		if got := impl.Execute(text); got != "too long\n" {
			t.Errorf("Execute of %d bytes that begin with %s returned %q", len(text), short(text), got)
		}
	}
}

// Promise 111: what is no line, and what fails, behind each script with room for them.
func TestExecuteWhatAndNo(t *testing.T) {
	for _, text := range sampleScripts() {
		if len(text) > 600-16 {
			continue
		}
		ahead, last := cutOutput(t, text)
		if got := impl.Execute(text + "zzz\nset 9 9 9\n"); got != ahead+"what\nno\n"+last {
			t.Errorf("Execute(%q) with both lines behind returned %q", text, got)
		}
	}
}

// Promise 112: the same for both lines.
func TestExecuteShowTwice(t *testing.T) {
	for _, text := range sampleScripts() {
		if len(text) > 600-10 {
			continue
		}
		ahead, last := cutOutput(t, text)
		got := impl.Execute(text + "show\nshow\n")
		shown, ok := strings.CutPrefix(got, ahead)
		first, rest, _ := strings.Cut(shown, "\n")
		if !ok || !isGridText(first) || rest != first+"\n"+last {
			t.Errorf("Execute(%q) with two lines show behind returned %q", text, got)
		}
	}
}

// Promises 110 to 117: samples, with the document's answers.
func TestExecuteSamples(t *testing.T) {
	for _, text := range sampleScripts() {
		checkScript(t, text)
	}
}

// Promises 110 to 117: a script with each word of the chapter, written out.
func TestExecuteEachWord(t *testing.T) {
	wantOutput(t, script(
		"grid 09 09 09/09 02 05/07 09 09", "run 0 0", "land 6", "land 3", "peaks", "fill", "show", "sees 1 0 2", "set 1 1 9", "sees 1 0 2",
		"turn", "show", "mirror", "show", "invert", "show", "name 0 0 5 9", "name 9 0 5 4", "name 0 9 1 1", "map", "place 47 10", "zzz", "run 3 0"),
		"ok", "0", "7 1 0", "8 1 1", "0:7 7:2", "ok", "09 09 09/09 05 05/07 09 09", "yes", "ok", "hidden",
		"ok", "07 09 09/09 09 09/09 05 09", "ok", "09 09 07/09 09 09/09 05 09", "ok", "90 90 92/90 90 90/90 94 90", "ok", "ok", "ok",
		"*...11111*\n00000.....\n"+emptyLines(7)+"*2........", "C12db", "what", "no", sizes(3, 3, 3))
}
