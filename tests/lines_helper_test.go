package tests

import (
	"fmt"
	"math/rand"
	"regexp"
	"slices"
	"strconv"
	"strings"
	"testing"

	"loop.example/cerberus/impl"
)

// lineWanted is how a line looks whose first word is one, and what stands behind that.
var lineWanted = regexp.MustCompile(`(?s)\A(as|tgs|ap|bring|tick|fall|meet|log|keys)(?: (.*))?\z`)

// lineNumber is how a number looks.
var lineNumber = regexp.MustCompile(`\A[0-9]{1,3}\z`)

// lineNumbersWanted is the two numbers behind a first word.
func lineNumbersWanted(behind string) [2]int {
	nums := [2]int{-1, -1}
	for i, word := range strings.Split(behind, " ") {
		if i < 2 && lineNumber.MatchString(word) {
			nums[i], _ = strconv.Atoi(word)
		}
	}
	return nums
}

// doLineWanted is a world behind a line, and what that tells.
func doLineWanted(w impl.World, line string) (impl.World, string) {
	found := lineWanted.FindStringSubmatch(line)
	if found == nil {
		return w, "what\n"
	}
	n := lineNumbersWanted(found[2])
	switch found[1] {
	case "as":
		return doWanted(w, evAs(n[0])), ""
	case "tgs":
		return doWanted(w, evTgs(n[0], n[1])), ""
	case "ap":
		return doWanted(w, evAp(n[0], n[1])), ""
	case "bring":
		return doWanted(w, bring(n[0])), ""
	case "tick":
		return doWanted(w, tick()), ""
	case "fall":
		return doWanted(w, fall(n[0])), ""
	case "meet":
		return meetWanted(w, n[0], n[1]), ""
	case "log":
		return w, logWanted(w)
	}
	return w, strings.TrimSuffix("keys "+strings.Trim(fmt.Sprint(badKeysWanted(w)), "[]"), " ") + "\n"
}

func logWanted(w impl.World) string {
	told := ""
	for place, m := range w.Log {
		told += fmt.Sprintf("%d: %s", place, impl.MsgText(m))
	}
	return told + fmt.Sprintf("at %d\n", w.Now)
}

// endWanted is what is told in the end of a world.
func endWanted(w impl.World) string {
	told := ""
	for _, s := range w.Servs {
		for _, call := range s.Took {
			told += fmt.Sprintf("%d called %d at %d\n", call.Peer, s.Id, call.Time)
		}
	}
	for _, c := range w.Clients {
		told += fmt.Sprintf("%d met %d\n", c.Id, len(c.Met))
	}
	return told
}

// linesWanted is what the document says that a text is told, by the worlds that it wants.
func linesWanted(bad int, text string) string {
	if !within(bad, 0, 3) {
		return "no world\n"
	}
	if len(text) > 600 {
		return "too long\n"
	}
	w, told := newWorld(bad), ""
	lines := strings.Split(text, "\n")
	for _, line := range lines[:len(lines)-1] {
		after, more := doLineWanted(w, line)
		w, told = after, told+more
	}
	return told + endWanted(w)
}

// checkLines holds what a text is told against the document.
func checkLines(t *testing.T, bad int, text string) string {
	t.Helper()
	got := impl.LinesRun(bad, text)
	if want := linesWanted(bad, text); got != want {
		t.Errorf("LinesRun(%d, %.650q) = %.2000q; want %.2000q", bad, text, got, want)
	}
	return got
}

// checkTold holds what a text is told against what is written out, and that against the document.
func checkTold(t *testing.T, bad int, text, want string) {
	t.Helper()
	if got := checkLines(t, bad, text); got != want {
		t.Errorf("LinesRun(%d, %.650q) = %.2000q; written out is %.2000q", bad, text, got, want)
	}
}

// metLines is the last lines, if so many were met.
func metLines(first, second, third int) string {
	return fmt.Sprintf("1 met %d\n2 met %d\n3 met %d\n", first, second, third)
}

// metByOne is the last lines, if one user met so many, and nobody else met any.
func metByOne(user, count int) string {
	var met [4]int
	met[user] = count
	return metLines(met[1], met[2], met[3])
}

// meetSteps is the lines that are meet, in a world without anything.
func meetSteps(user, serv int) string {
	return fmt.Sprintf("tick\nas %d\nbring 0\nbring 1\ntgs %d %d\nbring 2\nbring 3\nap %d %d\nbring 4\nbring 5\n", user, user, serv, user, serv)
}

// manyBrought is as many lines, each of which brings a word again, as a text has room for.
func manyBrought(places ...int) string {
	text := ""
	for _, place := range places {
		if line := fmt.Sprintf("bring %d\n", place); len(text)+len(line) <= 500 {
			text += line
		}
	}
	return text
}

// quietTexts is texts that tell nothing but the end, of all sorts.
func quietTexts() []string {
	all := []string{
		"", "tick\n", "as 1\n", "tgs 1 4\n", "ap 2 5\n", "bring 0\n", "fall 4\n", "meet 3 5\n", "as\ntgs\nap\nbring\nfall\nmeet\n",
		"meet 1 4\nmeet 2 5\nmeet 3 4\n", "as 2\nbring 0\nbring 1\ntick\ntgs 2 4\nbring 2\nbring 3\ntick\nap 2 4\nbring 4\nbring 5\n",
		"meet 1 5\nfall 5\nbring 4\ntick\nap 1 5\nbring 6\nbring 7\n", "meet 1 4\ntick\ntick\ntick\ntick\nap 1 4\nap 1 4\nbring 6\nbring 7\nbring 8\n",
		strings.Repeat("meet 1 4\n", 40), strings.Repeat("tick\n", 101), strings.Repeat("as 1\nas 2\nas 3\n", 30), meetSteps(2, 5),
		strings.Repeat("meet 1 5\nmeet 3 4\n", 20) + "fall 5\n", "meet 2 4\n" + manyBrought(slices.Repeat(upTo(0, 5), 20)...),
	}
	for _, user := range upTo(1, 3) {
		for _, serv := range upTo(4, 5) {
			all = append(all, fmt.Sprintf("meet %d %d\n", user, serv), meetSteps(user, serv))
		}
	}
	return all
}

// wordPool is first words, those that are none, and numbers, those that are none, too.
var (
	firstPool  = []string{"as", "tgs", "ap", "bring", "tick", "fall", "meet", "meet", "log", "keys", "bring", "bring", "tick"}
	noneFirst  = []string{"", "what", "at", "Meet", "TICK", "ticks", "tic", "as1", "forge", "7", "-1", "\xff", "\x00", "tick\r", "log\t", "méet"}
	numberPool = []string{"0", "1", "2", "3", "4", "5", "6", "7", "8", "9", "10", "11", "1", "2", "3", "4", "5"}
	noneNumber = []string{"", "00", "01", "002", "0003", "+1", "-1", "100", "999", "1000", "1x", "x", "4.", "0x4", "\xff", "４", "1\r"}
)

func anyOf(r *rand.Rand, pool []string) string { return pool[r.Intn(len(pool))] }

// randomLine is a line; one of so many words of it is odd.
func randomLine(r *rand.Rand, odd int) string {
	words := []string{anyOf(r, firstPool)}
	if r.Intn(odd) == 0 {
		words[0] = anyOf(r, noneFirst)
	}
	for _, pool := range [][]string{numberPool, {"4", "5"}} {
		word := anyOf(r, pool)
		if words[0] == "bring" {
			word = strconv.Itoa(r.Intn(30))
		} else if words[0] != "fall" && len(words) == 1 {
			word = strconv.Itoa(1 + r.Intn(3))
		} else if words[0] == "fall" {
			word = anyOf(r, []string{"4", "5"})
		}
		if r.Intn(odd) == 0 {
			word = anyOf(r, noneNumber)
		}
		words = append(words, word)
	}
	if r.Intn(odd) == 0 {
		words = words[:1+r.Intn(2)]
	}
	if r.Intn(odd) == 0 {
		words = append(words, anyOf(r, noneNumber), "x")
	}
	return strings.Join(words, " ") + "\n"
}

// randomText is lines one behind the other, of at most so many bytes; some of them end without a newline.
func randomText(r *rand.Rand, size, odd int) string {
	text := ""
	for {
		line := randomLine(r, odd)
		if len(text)+len(line) > size {
			return text
		}
		text += line
		if r.Intn(60) == 0 {
			return text + strings.TrimSuffix(line, "\n")[:min(len(line)-1, size-len(text))]
		}
	}
}
