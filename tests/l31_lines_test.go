package tests

import (
	"fmt"
	"math/rand"
	"slices"
	"strings"
	"sync"
	"testing"

	"loop.example/cerberus/impl"
)

// Each kind of line once, and many one behind the other, written out.
func TestLinesOfEachKind(t *testing.T) {
	none := metLines(0, 0, 0)
	for _, c := range []struct {
		bad        int
		text, want string
	}{
		{0, "", none},
		{0, "as 1\n", none},
		{0, "tgs 1 4\n", none},
		{0, "ap 1 4\n", none},
		{0, "bring 0\n", none},
		{0, "tick\n", none},
		{0, "fall 4\n", none},
		{0, "meet 3 5\n", "3 called 5 at 1\n" + metLines(0, 0, 1)},
		{0, "log\n", "at 0\n" + none},
		{0, "keys\n", "keys\n" + none},
		{2, "keys\n", "keys 2\n" + none},
		{0, "what\n", "what\n" + none},
		{0, "hello\n", "what\n" + none},
		{0, "as 2\nlog\n", "0: 1 2 0 1\nat 0\n" + none},
		{0, "as 2\nas 2\nas 3\nlog\n", "0: 1 2 0 1\n1: 1 2 0 2\n2: 1 3 0 1\nat 0\n" + none},
		{2, "as 2\nlog\n", "at 0\n" + none},
		{1, "tick\nas 2\nbring 0\nlog\n", "0: 1 2 0 1\n1: 2 2 0 0\nticket 6 2 6 10 1 13\npart 2 6 10 1 13 0\nat 1\n" + none},
		{1, "as 2\nbring 0\nbring 1\ntick\ntgs 2 5\nlog\n", "0: 1 2 0 1\n1: 2 2 0 0\nticket 6 2 6 10 0 12\npart 2 6 10 1 12 0\n" +
			"2: 3 0 5 3\nticket 6 2 6 10 0 12\nauth 10 2 1 2 0 0\nat 1\n" + none},
		{3, "meet 1 4\nlog\n", "0: 1 1 0 1\n" +
			"1: 2 1 0 0\nticket 6 1 6 10 1 13\npart 1 6 10 1 13 0\n" +
			"2: 3 0 4 3\nticket 6 1 6 10 1 13\nauth 10 1 1 2 0 0\n" +
			"3: 4 1 0 0\nticket 4 1 4 11 1 13\npart 10 4 11 3 13 0\n" +
			"4: 5 0 4 0\nticket 4 1 4 11 1 13\nauth 11 1 1 4 0 0\n" +
			"5: 6 1 0 0\nback 11 1 4 0 0 0\nat 1\n1 called 4 at 1\n" + metLines(1, 0, 0)},
		{0, "meet 1 4\nap 1 4\nbring 6\n", "1 called 4 at 1\n1 called 4 at 1\n" + metLines(1, 0, 0)},
		{0, "meet 1 4\nap 1 4\nbring 6\nbring 7\n", "1 called 4 at 1\n1 called 4 at 1\n" + metLines(2, 0, 0)},
		{0, "meet 1 4\nap 1 4\nfall 4\nbring 6\n", "1 called 4 at 1\n" + metLines(1, 0, 0)},
		{0, "meet 1 4\nap 1 4\nfall 5\nbring 6\n", "1 called 4 at 1\n1 called 4 at 1\n" + metLines(1, 0, 0)},
		{0, "meet 2 5\nkeys\nmeet 3 4\nlogs\nkeys\n", "keys\nwhat\nkeys\n3 called 4 at 2\n2 called 5 at 1\n" + metLines(0, 1, 1)},
	} {
		checkTold(t, c.bad, c.text, c.want)
	}
}

// Answers hang on nothing that was asked ahead, or is asked at the same time.
func TestLinesTwice(t *testing.T) {
	texts := quietTexts()
	var want []string
	for _, text := range texts {
		want = append(want, impl.LinesRun(1, text+"log\nwho\nkeys\n"))
	}
	var wait sync.WaitGroup
	for i, text := range slices.Repeat(texts, 3) {
		wait.Go(func() {
			if got := impl.LinesRun(1, text+"log\nwho\nkeys\n"); got != want[i%len(want)] {
				t.Errorf("%q is told %q, and then %q", text, want[i%len(want)], got)
			}
		})
	}
	wait.Wait()
}

// Lines of all sorts one behind the other, against the document.
func TestLinesRandom(t *testing.T) {
	r := rand.New(rand.NewSource(31))
	count := map[string]int{}
	for i := range 3000 {
		told := checkLines(t, r.Intn(4), randomText(r, 40+r.Intn(561), []int{4, 15, 1000}[i%3]))
		for _, what := range []string{"what\n", "keys", "at ", " called 4 at ", " called 5 at ", ": 5 0 ", ": 6 "} {
			if strings.Contains(told, what) {
				count[what]++
			}
		}
		if !strings.HasSuffix(told, metLines(0, 0, 0)) {
			count["met"]++
		}
	}
	for _, what := range []string{"what\n", "keys", "at ", " called 4 at ", " called 5 at ", ": 5 0 ", ": 6 ", "met"} {
		if count[what] < 100 {
			t.Errorf("just %d texts are told %q", count[what], what)
		}
	}
}

// Bytes of all sorts, against the document.
func TestLinesRandomBytes(t *testing.T) {
	r := rand.New(rand.NewSource(32))
	pieces := append(joined(firstPool, noneFirst, numberPool, noneNumber), " ", " ", " ", "  ", "\n", "\n", "\n", "\n\n", "\r\n", "\t", "\v", "\u00a0", "\u2028", "\x00", "\xc3")
	for range 3000 {
		text := ""
		for size := r.Intn(640); len(text) < size; {
			if r.Intn(40) == 0 {
				text += string([]byte{byte(r.Intn(256))})
			}
			text += anyOf(r, pieces)
		}
		checkLines(t, r.Intn(6)-1, text)
	}
}

// Words of a line: a blank, and nothing else, cuts; two of them have an empty word between.
func TestLinesWords(t *testing.T) {
	one, none := "1 called 4 at 1\n"+metLines(1, 0, 0), metLines(0, 0, 0)
	for text, want := range map[string]string{
		"meet 1 4\n":                one,
		"meet 1 4 \n":               one,
		"meet 1 4  \n":              one,
		"meet 1 4 5\n":              one,
		"meet 1 4 x y z\n":          one,
		"meet 1 4 meet 2 5\n":       one,
		"meet 1 4 \xff\x00\n":       one,
		"meet  1 4\n":               none,
		"meet 1  4\n":               none,
		"meet 1\n":                  none,
		"meet 1 \n":                 none,
		"meet\n":                    none,
		"meet \n":                   none,
		"meet 4 1\n":                none,
		"meet 1\t4\n":               none,
		"meet 1\u00a04\n":           none,
		"meet 1 4\r\n":              none,
		"meet 1,4\n":                none,
		" meet 1 4\n":               "what\n" + none,
		"  meet 1 4\n":              "what\n" + none,
		"\tmeet 1 4\n":              "what\n" + none,
		"meet\t1 4\n":               "what\n" + none,
		"meet\u00a01 4\n":           "what\n" + none,
		"Meet 1 4\n":                "what\n" + none,
		"MEET 1 4\n":                "what\n" + none,
		"meets 1 4\n":               "what\n" + none,
		"meet1 4\n":                 "what\n" + none,
		"mee 1 4\n":                 "what\n" + none,
		"meet\x00 1 4\n":            "what\n" + none,
		"\ufeffmeet 1 4\n":          "what\n" + none,
		"meet\r\n":                  "what\n" + none,
		"\n":                        "what\n" + none,
		" \n":                       "what\n" + none,
		"     \n":                   "what\n" + none,
		"\t\n":                      "what\n" + none,
		"\r\n":                      "what\n" + none,
		"\x00\n":                    "what\n" + none,
		"\xff\xfe\xfd\n":            "what\n" + none,
		"\n\n\n":                    "what\nwhat\nwhat\n" + none,
		"\nmeet 1 4\n\n":            "what\nwhat\n" + one,
		"1 4\n":                     "what\n" + none,
		"1 met 1\n":                 "what\n" + none,
		"forge 1 1 0 1\n":           "what\n" + none,
		"no world\n":                "what\n" + none,
		"log \n":                    "at 0\n" + none,
		"log 1 2 3\n":               "at 0\n" + none,
		"logs\n":                    "what\n" + none,
		"Log\n":                     "what\n" + none,
		"keys keys keys\n":          "keys 3\n" + none,
		"key\n":                     "what\n" + none,
		"KEYS\n":                    "what\n" + none,
		"tick 5\nlog\n":             "at 1\n" + none,
		"tick tick tick\nlog\n":     "at 1\n" + none,
		"tick  \nlog\n":             "at 1\n" + none,
		"tick\r\nlog\n":             "what\nat 0\n" + none,
		"tick\\nlog\n":              "what\n" + none,
		"what\nmeet 1 4\nx\nmeet\n": "what\nwhat\n" + one,
	} {
		checkTold(t, 3, text, want)
	}
}

// A first word that is none is told so, whichever it is, and changes nothing; one that is one is not.
func TestLinesFirstWords(t *testing.T) {
	first := []string{"as", "tgs", "ap", "bring", "tick", "fall", "meet", "log", "keys"}
	for _, word := range first {
		none := []string{strings.ToUpper(word), strings.ToUpper(word[:1]) + word[1:], word + "s", word + "\r", word + "\x00", word + ".", word[:len(word)-1], word[1:], "x" + word, "\t" + word, word + "\t4"}
		for i := range word {
			none = append(none, word[:i]+"\x00"+word[i:], word[:i]+"\xff"+word[i+1:])
		}
		for _, other := range none {
			if slices.Contains(first, other) {
				continue
			}
			for _, behind := range []string{"", " ", " 1", " 1 4", " 0", " 4"} {
				checkTold(t, 0, "meet 1 4\n"+other+behind+"\nlog\n", "what\n"+impl.LinesRun(0, "meet 1 4\nlog\n"))
			}
		}
		for _, behind := range []string{"", " ", " 1", " 1 4", " 0", " 4", "  "} {
			if told := checkLines(t, 0, word+behind+"\n"); strings.Contains(told, "what") {
				t.Errorf("%q is told %q", word+behind, told)
			}
		}
	}
}

// A number that is missing, or is none, is -1: the line is done with it.
func TestLinesNumbersThatAreNone(t *testing.T) {
	for _, num := range []string{"", "-1", "+1", "-0", "+0", "0001", "0000", "1000", "9999", "00001", "1x", "x1", "x", "1.", "1,", "0x1", "1e1", "1_0", "1\t", "\t1", "1\r", "１", "٣", "\xff", "1\xff", "\x00", "1\x00", "½",
		"4294967297", "18446744073709551617", strings.Repeat("1", 500)} {
		none := metLines(0, 0, 0)
		for text, want := range map[string]string{
			"as " + num + "\nlog\n":                "at 0\n" + none,
			"meet " + num + " 4\nlog\n":            "at 1\n" + none,
			"tick\nmeet " + num + "\nlog\n":        "at 2\n" + none,
			"as 1\nbring " + num + "\nlog\n":       "0: 1 1 0 1\nat 0\n" + none,
			"fall " + num + "\nmeet 2 5\n":         "2 called 5 at 1\n" + metLines(0, 1, 0),
			"meet 1 5\ntgs 1 " + num + "\n":        "1 called 5 at 1\n" + metLines(1, 0, 0),
			"meet 1 5\nap " + num + " 5\nlog\n":    impl.LinesRun(0, "meet 1 5\nlog\n"),
			"meet 1 5\nap 1 " + num + "\nlog\n":    impl.LinesRun(0, "meet 1 5\nlog\n"),
			"meet 1 5\ntgs " + num + " 5\nlog\n":   impl.LinesRun(0, "meet 1 5\nlog\n"),
			"meet 1 5\nfall " + num + "\nlog\n":    impl.LinesRun(0, "meet 1 5\nlog\n"),
			"meet 1 5\nbring " + num + " 4\nlog\n": impl.LinesRun(0, "meet 1 5\nlog\n"),
		} {
			checkTold(t, 0, text, want)
		}
		// Of a meet for no service the user asks for a first ticket, which he is given.
		checkTold(t, 0, "meet 1 "+num+"\nlog\n", "0: 1 1 0 1\n1: 2 1 0 0\nticket 6 1 6 10 1 13\npart 1 6 10 1 13 0\nat 1\n"+none)
	}
}

// Numbers of one to three figures, with zeros ahead.
func TestLinesNumbers(t *testing.T) {
	for n := range 1000 {
		for width := 1; width <= 4; width++ {
			text := fmt.Sprintf("as 2\nas %0*d\nas 3\nbring %0*d\nfall %0*d\ntick\nlog\n", width, n, width, n, width, n)
			checkLines(t, n%4, text)
		}
	}
	one := "1 called 4 at 1\n" + metLines(1, 0, 0)
	for _, user := range []string{"1", "01", "001"} {
		for _, serv := range []string{"4", "04", "004"} {
			checkTold(t, 2, "meet "+user+" "+serv+"\n", one)
			checkTold(t, 2, "meet 0"+user[:len(user)-1]+"01 "+serv+"\n", map[bool]string{true: one, false: metLines(0, 0, 0)}[len(user) == 1])
		}
	}
	checkTold(t, 0, "as 1\nbring 000\nlog\n", impl.LinesRun(0, "as 1\nbring 0\nlog\n"))
	checkTold(t, 0, "as 1\nbring 0000\nlog\n", impl.LinesRun(0, "as 1\nlog\n"))
}

// Each byte that is no figure, alone, and beside one, makes a number none; a blank cuts.
func TestLinesOtherBytes(t *testing.T) {
	many := strings.Repeat("as 1\n", 12)
	for n := range 256 {
		if other := string([]byte{byte(n)}); !within(n, '0', '9') && other != " " && other != "\n" {
			for _, num := range []string{other, "0" + other, other + "0", "1" + other, other + "1", other + other, "0" + other + "1"} {
				checkTold(t, 0, many+"bring "+num+"\nlog\n", impl.LinesRun(0, many+"log\n"))
				checkTold(t, 0, many+"bring "+num+" 1\nlog\n", impl.LinesRun(0, many+"log\n"))
			}
		}
	}
}

// Places of words: none, the first, the last, and one behind it; with two figures, too.
func TestLinesPlaces(t *testing.T) {
	many := strings.Repeat("as 1\n", 12)
	for place := -1; place <= 14; place++ {
		text := many + fmt.Sprintf("bring %d\nlog\n", place)
		told := checkLines(t, 3, text)
		if brought := strings.Contains(told, fmt.Sprintf("12: 2 1 0 0\nticket 6 1 6 10 0 12\npart 1 6 10 %d 12 0\n", place+1)); brought != within(place, 0, 11) {
			t.Errorf("LinesRun(3, %q) = %q", text, told)
		}
	}
	checkTold(t, 3, "bring 0\nlog\n", "at 0\n"+metLines(0, 0, 0))
}

// Users and services that are none; meet of these lets time go on.
func TestLinesNobody(t *testing.T) {
	for _, user := range []int{0, 4, 5, 6, 9, 10, 257, 999} {
		for _, serv := range upTo(3, 6) {
			checkTold(t, 2, fmt.Sprintf("as %d\ntgs %d %d\nap %d %d\nlog\n", user, user, serv, user, serv), "at 0\n"+metLines(0, 0, 0))
			checkTold(t, 2, fmt.Sprintf("meet %d %d\nlog\n", user, serv), "at 1\n"+metLines(0, 0, 0))
		}
	}
	for _, serv := range []int{0, 1, 3, 6, 7, 260, 999} {
		checkTold(t, 2, fmt.Sprintf("meet 1 4\ntgs 1 %d\nap 1 %d\nfall %d\nlog\n", serv, serv, serv), impl.LinesRun(2, "meet 1 4\nlog\n"))
		checkTold(t, 2, fmt.Sprintf("meet 1 %d\nlog\n", serv), "0: 1 1 0 1\n1: 2 1 0 0\nticket 6 1 6 10 1 13\npart 1 6 10 1 13 0\nat 1\n"+metLines(0, 0, 0))
	}
}

// What is behind the last newline does not count.
func TestLinesWithoutNewline(t *testing.T) {
	for _, text := range append(quietTexts(), "log\n", "what\n", "\n", "as 1\nlog\n", "keys\nkeys\n") {
		for bad := range 4 {
			want := checkLines(t, bad, text)
			for _, behind := range []string{"meet 1 4", "tick", "log", "keys", "what", " ", "x", "\r", "\x00", "\xff", "bring 0", "fall 4"} {
				if len(text+behind) <= 600 {
					checkTold(t, bad, text+behind, want)
				}
			}
		}
	}
	checkTold(t, 0, "meet 1 4", metLines(0, 0, 0))
	checkTold(t, 0, strings.Repeat("x", 600), metLines(0, 0, 0))
	checkTold(t, 0, strings.Repeat("x", 599)+"\n", "what\n"+metLines(0, 0, 0))
	checkTold(t, 0, strings.Repeat("\n", 600), strings.Repeat("what\n", 600)+metLines(0, 0, 0))
	checkTold(t, 0, "tick"+strings.Repeat(" ", 591)+"\nlog\n", "at 1\n"+metLines(0, 0, 0))
}

// The end of each text: calls of each service, in order of services, and of Took; then each user, in order.
func TestLinesEnd(t *testing.T) {
	checkTold(t, 0, "meet 3 5\nmeet 2 4\nmeet 1 5\nmeet 3 4\nmeet 2 4\n",
		"2 called 4 at 2\n3 called 4 at 4\n2 called 4 at 5\n3 called 5 at 1\n1 called 5 at 3\n"+metLines(1, 2, 2))
	// Two calls that are brought the other way round are told as they were taken; an answer that is not brought is not met.
	checkTold(t, 0, "meet 1 5\nmeet 2 5\ntick\nap 1 5\ntick\nap 2 5\nbring 13\nbring 12\nbring 14\n",
		"1 called 5 at 1\n2 called 5 at 2\n2 called 5 at 4\n1 called 5 at 3\n"+metLines(1, 2, 0))
	// Calls that are sent are neither taken, nor met, if nobody brings them.
	checkTold(t, 0, "meet 1 5\nap 1 5\nap 1 5\nap 1 5\n", "1 called 5 at 1\n"+metLines(1, 0, 0))
	// What is told of a call is when it was told, and not when it was brought.
	checkTold(t, 0, "meet 1 5\nap 1 5\ntick\ntick\ntick\nbring 6\nbring 7\n", "1 called 5 at 1\n1 called 5 at 1\n"+metLines(2, 0, 0))
	checkTold(t, 0, "meet 1 5\nap 1 5\ntick\ntick\ntick\ntick\nbring 6\nbring 7\n", "1 called 5 at 1\n"+metLines(1, 0, 0))
	// The words for a thirteenth meet, and those behind it, are lost in a full Log.
	told := checkLines(t, 0, strings.Repeat("meet 1 4\n", 66))
	if calls := strings.Count(told, " called 4 at "); calls != 13 || !strings.HasSuffix(told, metLines(13, 0, 0)) {
		t.Errorf("so many meet that there is no more room is told %q", told)
	}
	told = checkLines(t, 0, strings.Repeat("as 1\nas 2\n", 59)+"log\n")
	if words := strings.Count(told, ": 1 "); words != 80 || !strings.Contains(told, "\n79: 1 2 0 40\nat 0\n") {
		t.Errorf("so many words that there is no more room are told %q", told)
	}
}
