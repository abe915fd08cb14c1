package tests

import (
	"slices"
	"sync"
	"testing"

	"loop.example/reliefmaps/impl"
)

// Promises 110 to 117: calls know nothing of each other, in any order.
func TestExecuteAgain(t *testing.T) {
	texts := sampleScripts()
	var outputs []string
	for _, text := range texts {
		outputs = append(outputs, impl.Execute(text))
	}
	for k, text := range slices.Backward(texts) {
		if got := impl.Execute(text); got != outputs[k] {
			t.Errorf("Execute(%q) returned %q, then %q", text, outputs[k], got)
		}
	}
}

// Promise 110: what a script leaves is not there for the next one.
func TestExecuteForgets(t *testing.T) {
	for _, text := range sampleScripts() {
		impl.Execute(text)
		wantOutput(t, "show\nmap\n", "00", mapLines(nil), sizes(1, 1, 0))
	}
	wantOutput(t, "grid 07 12\nname 1 1 1 1\nset 0 0 9\n", "ok", "ok", "ok", sizes(1, 2, 1))
	wantOutput(t, "", sizes(1, 1, 0))
	wantOutput(t, "name 1 1 1 1\n", "ok", sizes(1, 1, 1))
	wantOutput(t, "set 0 0 7\nshow\n", "ok", "07", sizes(1, 1, 0))
	wantOutput(t, "show\n", "00", sizes(1, 1, 0))
}

// Promises 110 to 117: calls at the same time.
func TestExecuteAtOnce(t *testing.T) {
	texts := sampleScripts()
	outputs := make([][]string, 4)
	var all sync.WaitGroup
	for n := range outputs {
		all.Go(func() {
			for _, text := range texts {
				outputs[n] = append(outputs[n], impl.Execute(text))
			}
		})
	}
	all.Wait()
	for n := range outputs {
		for k, text := range texts {
			if want := impl.Execute(text); outputs[n][k] != want {
				t.Errorf("Execute(%q) returned %q beside other calls; want %q", text, outputs[n][k], want)
			}
		}
	}
}
