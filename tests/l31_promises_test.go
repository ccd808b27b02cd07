package tests

import (
	"fmt"
	"math"
	"strings"
	"testing"

	"loop.example/cerberus/impl"
)

// P107: A text is told at least as many lines as there are users, each with a newline, unless there is no such world, or
// it is too long.
func TestP107LinesTold(t *testing.T) {
	texts := append(quietTexts(), "\n", "log", "log\n", "keys\n", "x\ny\nz\n", "\x00\n\xff", strings.Repeat("\n", 600), strings.Repeat(" ", 600), strings.Repeat("log\n", 150), strings.Repeat("\n", 601))
	for bad := -2; bad <= 5; bad++ {
		for _, text := range texts {
			told := checkLines(t, bad, text)
			switch {
			case !within(bad, 0, 3):
				if told != "no world\n" {
					t.Errorf("LinesRun(%d, %q) = %q", bad, text, told)
				}
			case len(text) > 600:
				if told != "too long\n" {
					t.Errorf("LinesRun(%d, %q) = %q", bad, text, told)
				}
			case strings.Count(told, "\n") < 3 || !strings.HasSuffix(told, "\n") || strings.Contains("\n"+told, "\n\n"):
				t.Errorf("LinesRun(%d, %q) = %q", bad, text, told)
			}
		}
	}
}

// P108: In a world without anything `meet` of a user and a service is told as a call, and one that is met; of the bad
// user nothing.
func TestP108Meet(t *testing.T) {
	for bad := range 4 {
		for user := 1; user <= 3; user++ {
			for serv := 4; serv <= 5; serv++ {
				want := fmt.Sprintf("%d called %d at 1\n", user, serv) + metByOne(user, 1)
				if user == bad {
					want = metLines(0, 0, 0)
				}
				checkTold(t, bad, fmt.Sprintf("meet %d %d\n", user, serv), want)
			}
		}
	}
}

// P109: In a world without a bad user, behind `meet`, the call brought again, and again behind a fall, is told once.
func TestP109CallAgain(t *testing.T) {
	for user := 1; user <= 3; user++ {
		for serv := 4; serv <= 5; serv++ {
			want := fmt.Sprintf("%d called %d at 1\n", user, serv) + metByOne(user, 1)
			meet := fmt.Sprintf("meet %d %d\n", user, serv)
			for _, between := range []string{"", "tick\n", "tick\ntick\ntick\n", strings.Repeat("tick\n", 12), strings.Repeat("tick\n", 13), strings.Repeat("tick\n", 100)} {
				for _, fall := range []string{"", "fall 4\n", "fall 5\n", "fall 4\nfall 5\n"} {
					for _, text := range []string{
						meet + between + "bring 4\n" + fall + "bring 4\n",
						meet + "bring 4\n" + between + fall + "bring 4\nbring 5\n",
						meet + fall + "bring 4\n" + between + "bring 4\n",
						meet + fall + between + strings.Repeat("bring 4\n", 3),
					} {
						checkTold(t, 0, text, want)
					}
				}
			}
			checkTold(t, 0, meet+manyBrought(0, 1, 2, 3, 4, 5, 6, 7, 8, 9, 4, 5, 4), want)
		}
	}
}

// P110: In a world without anything `keys` is the bad user's, behind `meet` of another user, too; `log` tells the time.
func TestP110KeysAndLog(t *testing.T) {
	for bad := range 4 {
		keys := "keys\n"
		if bad > 0 {
			keys = fmt.Sprintf("keys %d\n", bad)
		}
		checkTold(t, bad, "keys\n", keys+metLines(0, 0, 0))
		checkTold(t, bad, "log\n", "at 0\n"+metLines(0, 0, 0))
		checkTold(t, bad, "log\nkeys\nlog\n", "at 0\n"+keys+"at 0\n"+metLines(0, 0, 0))
		for user := 1; user <= 3; user++ {
			for serv := 4; serv <= 5; serv++ {
				meet := fmt.Sprintf("meet %d %d\n", user, serv)
				checkTold(t, bad, meet+"keys\n", keys+impl.LinesRun(bad, meet))
				if told := checkLines(t, bad, meet+"log\n"); !strings.HasSuffix(told, "at 1\n"+impl.LinesRun(bad, meet)) {
					t.Errorf("behind %q log tells %q", meet, told)
				}
			}
		}
	}
}

// P111: A text of more than 600 bytes is `too long`; with no such bad user it is `no world`.
func TestP111TooLongAndNoWorld(t *testing.T) {
	for _, bad := range []int{0, 1, 2, 3} {
		checkTold(t, bad, "", metLines(0, 0, 0))
		for size := 590; size <= 610; size++ {
			for _, text := range sized(size) {
				if told := checkLines(t, bad, text); len(text) != size || (told == "too long\n") != (size > 600) {
					t.Errorf("of %d bytes, LinesRun(%d, %q) = %q", size, bad, text, told)
				}
			}
		}
		for _, size := range []int{1200, 65536 + 10, 1 << 20} {
			checkTold(t, bad, strings.Repeat("\n", size), "too long\n")
			checkTold(t, bad, strings.Repeat("x", size), "too long\n")
		}
	}
	for _, bad := range []int{math.MinInt, -256, -4, -3, -2, -1, 4, 5, 6, 10, 256, 257, 1 << 32, 1<<32 + 1, math.MaxInt} {
		for _, size := range []int{0, 1, 599, 600, 601, 100000} {
			for _, text := range sized(size) {
				checkTold(t, bad, text, "no world\n")
			}
		}
		checkTold(t, bad, "meet 1 4\n", "no world\n")
	}
}

// sized is texts of just so many bytes.
func sized(size int) []string {
	all := []string{strings.Repeat(" ", size), strings.Repeat("\n", size), strings.Repeat("x", size), strings.Repeat("\xff", size), strings.Repeat("\x00", size)}
	for _, line := range []string{"tick\n", "log\n", "keys\n", "meet 1 4\n"} {
		all = append(all, strings.Repeat(line, 1+size/len(line))[:size])
	}
	return all
}

// P112: In a world without anything the steps of `meet`, each in a line, with all that is sent brought, are told the
// same as `meet`.
func TestP112StepsOfMeet(t *testing.T) {
	for bad := range 4 {
		for user := 1; user <= 3; user++ {
			for serv := 4; serv <= 5; serv++ {
				meet := fmt.Sprintf("meet %d %d\n", user, serv)
				for _, behind := range []string{"", "log\n", "keys\n", "log\nkeys\nwhat\n", "bring 4\nlog\n", "ap 1 4\nap 2 5\nlog\n", "meet 1 4\nlog\n"} {
					checkTold(t, bad, meetSteps(user, serv)+behind, checkLines(t, bad, meet+behind))
				}
			}
		}
	}
}

// P113: In a world without a bad user `fall` ahead of `meet`, or between two, leaves both met.
func TestP113FallAndMeet(t *testing.T) {
	for _, fall := range []string{"fall 4\n", "fall 5\n", "fall 4\nfall 5\n", "fall 4\nfall 4\n"} {
		for user := 1; user <= 3; user++ {
			for serv := 4; serv <= 5; serv++ {
				meet := fmt.Sprintf("meet %d %d\n", user, serv)
				one := fmt.Sprintf("%d called %d at 1\n", user, serv)
				two := one + fmt.Sprintf("%d called %d at 2\n", user, serv)
				checkTold(t, 0, fall+meet, one+metByOne(user, 1))
				checkTold(t, 0, fall+meet+meet, two+metByOne(user, 2))
				checkTold(t, 0, meet+fall+meet, two+metByOne(user, 2))
				checkTold(t, 0, fall+meet+fall+meet+fall, two+metByOne(user, 2))
				for other := 1; other <= 3; other++ {
					checkTold(t, 0, meet+fall+fmt.Sprintf("meet %d %d\n", other, serv), one+fmt.Sprintf("%d called %d at 2\n", other, serv)+metByTwo(user, other))
				}
			}
		}
	}
}

// metByTwo is the last lines, if each of these met one; they may be one.
func metByTwo(user, other int) string {
	var met [4]int
	met[user]++
	met[other]++
	return metLines(met[1], met[2], met[3])
}

// P114: In a world without anything so many lines `tick`, and `log`, tell the time.
func TestP114Ticks(t *testing.T) {
	for bad := range 4 {
		for count := range 120 {
			checkTold(t, bad, strings.Repeat("tick\n", count)+"log\n", fmt.Sprintf("at %d\n", min(count, 100))+metLines(0, 0, 0))
		}
		for count := range 60 {
			text, want := "log\n", "at 0\n"
			for n := 1; n <= count; n++ {
				text, want = text+"tick\nlog\n", want+fmt.Sprintf("at %d\n", n)
			}
			checkTold(t, bad, text, want+metLines(0, 0, 0))
		}
	}
}

// P115: Lines, and behind them `log`, `keys`, or `what`, are told as without, but for what is asked.
func TestP115AskedBehind(t *testing.T) {
	for bad := range 4 {
		for _, text := range quietTexts() {
			end := checkLines(t, bad, text)
			checkTold(t, bad, text+"what\n", "what\n"+end)
			keys := "keys"
			if bad > 0 {
				keys += fmt.Sprintf(" %d", bad)
			}
			checkTold(t, bad, text+"keys\n", keys+"\n"+end)
			log, ok := strings.CutSuffix(checkLines(t, bad, text+"log\n"), end)
			if !ok || !strings.Contains("\n"+log, "\nat ") {
				t.Errorf("behind %q log tells %q ahead of %q", text, log, end)
			}
			checkTold(t, bad, text+"log\nkeys\nwhat\nlog\n", log+keys+"\nwhat\n"+log+end)
		}
	}
}

// P115: what is asked between lines changes nothing of what they do.
func TestP115AskedBetween(t *testing.T) {
	for bad := range 4 {
		for _, text := range quietTexts() {
			lines := strings.SplitAfter(text, "\n")
			for _, ask := range []string{"log\n", "keys\n", "what\n", "\n"} {
				asked := ask + strings.Join(lines, ask)
				if len(asked) <= 600 && !strings.HasSuffix(checkLines(t, bad, asked), impl.LinesRun(bad, text)) {
					t.Errorf("LinesRun(%d, %q) = %q", bad, asked, impl.LinesRun(bad, asked))
				}
			}
		}
	}
}

// P116: In a world without a bad user `meet` of one user with both services, and of another one, are told in order of
// services.
func TestP116OrderOfServices(t *testing.T) {
	for user := 1; user <= 3; user++ {
		for other := 1; other <= 3; other++ {
			if other == user {
				continue
			}
			var met [4]int
			met[user], met[other] = 2, 1
			end := metLines(met[1], met[2], met[3])
			meets := func(serv, second, third int) string {
				return fmt.Sprintf("meet %d %d\nmeet %d %d\nmeet %d %d\n", user, serv, user, second, other, third)
			}
			checkTold(t, 0, meets(4, 5, 4), fmt.Sprintf("%d called 4 at 1\n%d called 4 at 3\n%d called 5 at 2\n", user, other, user)+end)
			checkTold(t, 0, meets(4, 5, 5), fmt.Sprintf("%d called 4 at 1\n%d called 5 at 2\n%d called 5 at 3\n", user, user, other)+end)
			checkTold(t, 0, meets(5, 4, 4), fmt.Sprintf("%d called 4 at 2\n%d called 4 at 3\n%d called 5 at 1\n", user, other, user)+end)
			checkTold(t, 0, meets(5, 4, 5), fmt.Sprintf("%d called 4 at 2\n%d called 5 at 1\n%d called 5 at 3\n", user, user, other)+end)
		}
	}
}
