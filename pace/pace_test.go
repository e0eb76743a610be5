package pace_test

import (
	"slices"
	"strconv"
	"strings"
	"testing"

	"switchboard/api"
	"switchboard/pace"
)

const (
	mostInt  = int(^uint(0) >> 1)
	leastInt = -mostInt - 1

	// The greatest tick and the most attempts, written out, so that the tests do not hang on what they test against.
	last  = 1073741824
	tries = 8
)

// numbers are those that matter wherever a number is handed in, rising.
func numbers() []int {
	return []int{leastInt, leastInt + 1, -last, -8, -1, 0, 1, 2, 3, 7, 8, 9, 1000, last - 3, last - 1, last, last + 1, mostInt - 1, mostInt}
}

// count answers the tick that n counts as.
func count(n int) int {
	switch {
	case n < 0:
		return 0
	case n > last:
		return last
	}
	return n
}

// later answers the tick that is a stagger behind since.
func later(since, stagger int) int {
	return count(count(since) + count(stagger))
}

// read answers the history that is told in s: s for a start, or f for a failure, which one, @, and the tick.
func read(s string) []api.Pace {
	var l []api.Pace
	for _, text := range strings.Fields(s) {
		which, when, _ := strings.Cut(text[1:], "@")
		l = append(l, api.Pace{Fail: text[0] == 'f', N: number(which), At: number(when)})
	}
	return l
}

// number answers what is told in s, by digits or by a word.
func number(s string) int {
	switch s {
	case "least":
		return leastInt
	case "most":
		return mostInt
	case "last":
		return last
	}
	n, err := strconv.Atoi(s)
	if err != nil {
		panic(err)
	}
	return n
}

// starts answers a history of starts alone, at these ticks.
func starts(at ...int) []api.Pace {
	var l []api.Pace
	for n, t := range at {
		l = append(l, api.Pace{N: n, At: t})
	}
	return l
}

// lists are all lists of up to length of the things, the short ones first.
func lists[T any](length int, things ...T) [][]T {
	all := [][]T{nil}
	from := 0
	for range length {
		to := len(all)
		for _, l := range all[from:to] {
			for _, v := range things {
				all = append(all, append(slices.Clone(l), v))
			}
		}
		from = to
	}
	return all
}

// paces are the starts and failures of each of n, at each of these ticks.
func paces(n []int, at ...int) []api.Pace {
	var l []api.Pace
	for _, fail := range []bool{false, true} {
		for _, which := range n {
			for _, t := range at {
				l = append(l, api.Pace{Fail: fail, N: which, At: t})
			}
		}
	}
	return l
}

// keeps says what the chapter says, by other means: what it asks, one by one, of the whole history.
func keeps(stagger int, l []api.Pace) bool {
	started := make(map[int]int)
	for n, p := range l {
		for _, ahead := range l[:n] {
			if ahead.At > p.At || p.Fail && ahead.Fail && ahead.N == p.N {
				return false
			}
		}
		at, has := started[p.N]
		before, one := started[p.N-1]
		freed := slices.ContainsFunc(l[:n], func(ahead api.Pace) bool { return ahead.Fail && ahead.N == p.N-1 })
		switch {
		case p.Fail && (!has || at > p.At):
			return false
		case p.Fail:
			continue
		case has || p.N < 0 || p.N > 0 && !one:
			return false
		case p.N > 0 && !freed && count(p.At) < later(before, stagger):
			return false
		}
		started[p.N] = p.At
	}
	return true
}

// P14.1: May with none started, one, all of them, more than all, at, ahead of and behind the tick from which on it may start by itself, the last one failed and not.
func TestMay(t *testing.T) {
	for _, x := range []struct {
		started, total      int
		failed              bool
		since, stagger, now int
		want                bool
	}{
		{0, 0, false, 0, 0, 0, false},
		{0, 0, true, 0, 0, 9, false},
		{0, 1, false, 0, 0, 0, true},
		{0, 1, true, 0, 0, 0, true},
		{0, 3, false, 5, 3, 0, true},
		{0, 3, false, 5, 3, 7, true},
		{0, 3, false, last, last, 0, true},
		{1, 3, false, 5, 3, 0, false},
		{1, 3, false, 5, 3, 4, false},
		{1, 3, false, 5, 3, 5, false},
		{1, 3, false, 5, 3, 7, false},
		{1, 3, false, 5, 3, 8, true},
		{1, 3, false, 5, 3, 9, true},
		{1, 3, false, 5, 3, last, true},
		{1, 3, true, 5, 3, 0, true},
		{1, 3, true, 5, 3, 5, true},
		{1, 3, true, 5, 3, 7, true},
		{1, 3, true, 5, 3, 8, true},
		{2, 3, false, 5, 3, 7, false},
		{2, 3, false, 5, 3, 8, true},
		{2, 3, true, 5, 3, 7, true},
		{3, 3, false, 5, 3, 7, false},
		{3, 3, false, 5, 3, 8, false},
		{3, 3, true, 5, 3, 8, false},
		{4, 3, false, 5, 3, 8, false},
		{4, 3, true, 5, 3, 8, false},
		{1, 2, false, 5, 0, 4, false},
		{1, 2, false, 5, 0, 5, true},
		{1, 2, false, last, 3, last - 1, false},
		{1, 2, false, last, 3, last, true},
		{1, 2, false, last - 2, 3, last - 1, false},
		{1, 2, false, last - 2, 3, last, true},
		{1, 2, false, 1, last, last - 1, false},
		{1, 2, false, 1, last, last, true},
	} {
		if got := pace.May(x.started, x.total, x.failed, x.since, x.stagger, x.now); got != x.want {
			t.Error(x, got)
		}
	}
}

// P14.1: numbers below 0 and great ones: fewer than none started is none, ticks and staggers are what they count as, and of none, or fewer, none is left.
func TestMayOfWrongNumbers(t *testing.T) {
	for _, x := range []struct {
		started, total      int
		failed              bool
		since, stagger, now int
		want                bool
	}{
		{-1, 1, false, 5, 3, 0, true},
		{-1, 1, true, 5, 3, 0, true},
		{leastInt, 1, false, 5, 3, 0, true},
		{leastInt, mostInt, false, 5, 3, 0, true},
		{-1, 0, false, 5, 3, 9, false},
		{-1, 0, true, 5, 3, 9, false},
		{-2, -1, false, 5, 3, 9, false},
		{leastInt, -1, true, 5, 3, 9, false},
		{leastInt, 0, false, 5, 3, 9, false},
		{leastInt, leastInt, true, 5, 3, 9, false},
		{0, -1, false, 5, 3, 9, false},
		{0, leastInt, true, 5, 3, 9, false},
		{1, -1, true, 5, 3, 9, false},
		{1, leastInt, true, 5, 3, 9, false},
		{mostInt, leastInt, true, 5, 3, 9, false},
		{mostInt, mostInt, true, 5, 3, 9, false},
		{mostInt - 1, mostInt, true, 5, 3, 0, true},
		{mostInt - 1, mostInt, false, 5, 3, 7, false},
		{mostInt - 1, mostInt, false, 5, 3, 8, true},
		{1, 2, false, -1, 3, 2, false},
		{1, 2, false, -1, 3, 3, true},
		{1, 2, false, leastInt, 3, 2, false},
		{1, 2, false, leastInt, 3, 3, true},
		{1, 2, false, leastInt, leastInt, leastInt, true},
		{1, 2, false, 5, -1, 4, false},
		{1, 2, false, 5, -1, 5, true},
		{1, 2, false, 5, leastInt, 5, true},
		{1, 2, false, 0, 0, -1, true},
		{1, 2, false, 0, 1, -1, false},
		{1, 2, false, -1, 0, leastInt, true},
		{1, 2, false, mostInt, mostInt, last - 1, false},
		{1, 2, false, mostInt, mostInt, last, true},
		{1, 2, false, mostInt, 0, last, true},
		{1, 2, false, mostInt, mostInt, mostInt, true},
		{1, 2, false, mostInt, 0, leastInt, false},
	} {
		if got := pace.May(x.started, x.total, x.failed, x.since, x.stagger, x.now); got != x.want {
			t.Error(x, got)
		}
	}
}

// P14.1: When for none started, none left, one left, and more; a stagger of 0; at the greatest tick.
func TestWhen(t *testing.T) {
	for _, x := range []struct {
		started, total, since, stagger int
		at                             int
		ok                             bool
	}{
		{0, 0, 5, 3, 0, false},
		{0, 1, 5, 3, 0, false},
		{0, 3, 5, 3, 0, false},
		{1, 1, 5, 3, 0, false},
		{1, 2, 5, 3, 8, true},
		{1, 3, 5, 3, 8, true},
		{2, 3, 5, 3, 8, true},
		{3, 3, 5, 3, 0, false},
		{4, 3, 5, 3, 0, false},
		{1, 2, 0, 0, 0, true},
		{1, 2, 5, 0, 5, true},
		{1, 2, 0, 3, 3, true},
		{1, 2, last, 0, last, true},
		{1, 2, last, 3, last, true},
		{1, 2, last - 3, 3, last, true},
		{1, 2, last - 4, 3, last - 1, true},
		{1, 2, 0, last, last, true},
		{1, 2, last, last, last, true},
		{-1, 1, 5, 3, 0, false},
		{-1, 0, 5, 3, 0, false},
		{leastInt, mostInt, 5, 3, 0, false},
		{1, 0, 5, 3, 0, false},
		{1, -1, 5, 3, 0, false},
		{-2, -1, 5, 3, 0, false},
		{1, leastInt, 5, 3, 0, false},
		{mostInt, mostInt, 5, 3, 0, false},
		{mostInt, leastInt, 5, 3, 0, false},
		{mostInt - 1, mostInt, 5, 3, 8, true},
		{1, 2, -1, 3, 3, true},
		{1, 2, leastInt, 3, 3, true},
		{1, 2, 5, -1, 5, true},
		{1, 2, 5, leastInt, 5, true},
		{1, 2, leastInt, leastInt, 0, true},
		{1, 2, mostInt, 3, last, true},
		{1, 2, 5, mostInt, last, true},
		{1, 2, mostInt, mostInt, last, true},
		{1, 2, mostInt, leastInt, last, true},
		{1, 2, leastInt, mostInt, last, true},
	} {
		at, ok := pace.When(x.started, x.total, x.since, x.stagger)
		if at != x.at || ok != x.ok {
			t.Error(x, at, ok)
		}
	}
}

// P14.1: the tick that When tells is that from which on May is yes, if the last one has not failed; with none told it is the same at all ticks.
func TestMayFromWhenOn(t *testing.T) {
	for _, started := range numbers() {
		for _, total := range numbers() {
			for _, since := range numbers() {
				for _, stagger := range numbers() {
					at, ok := pace.When(started, total, since, stagger)
					left := total > 0 && started < total
					if want := left && started > 0; ok != want || ok && at != later(since, stagger) || !ok && at != 0 {
						t.Fatal(started, total, since, stagger, at, ok)
					}
					for _, now := range append(numbers(), at-1, at, at+1) {
						want := left && (!ok || count(now) >= at)
						if pace.May(started, total, false, since, stagger, now) != want || pace.May(started, total, true, since, stagger, now) != left {
							t.Fatal(started, total, since, stagger, now, want, left)
						}
					}
				}
			}
		}
	}
}

// P14.2: Plan of none, of one, of a few, of the most, of one more, of a number below 0; a stagger of 0; from and stagger at the greatest tick.
func TestPlan(t *testing.T) {
	for _, x := range []struct {
		n, from, stagger int
		want             []int
	}{
		{3, 5, 3, []int{5, 8, 11}},
		{0, 5, 3, nil},
		{-1, 5, 3, nil},
		{leastInt, 5, 3, nil},
		{1, 5, 3, []int{5}},
		{2, 5, 3, []int{5, 8}},
		{7, 5, 3, []int{5, 8, 11, 14, 17, 20, 23}},
		{8, 5, 3, []int{5, 8, 11, 14, 17, 20, 23, 26}},
		{9, 5, 3, []int{5, 8, 11, 14, 17, 20, 23, 26}},
		{mostInt, 5, 3, []int{5, 8, 11, 14, 17, 20, 23, 26}},
		{3, 0, 0, []int{0, 0, 0}},
		{3, 5, 0, []int{5, 5, 5}},
		{3, 0, 1, []int{0, 1, 2}},
		{2, last, 3, []int{last, last}},
		{2, last, last, []int{last, last}},
		{3, 0, last, []int{0, last, last}},
		{3, 1, last, []int{1, last, last}},
		{3, last - 4, 3, []int{last - 4, last - 1, last}},
		{3, last - 6, 3, []int{last - 6, last - 3, last}},
		{2, -1, 3, []int{0, 3}},
		{2, leastInt, 3, []int{0, 3}},
		{2, last + 1, 3, []int{last, last}},
		{2, mostInt, mostInt, []int{last, last}},
		{3, 5, -1, []int{5, 5, 5}},
		{3, 5, leastInt, []int{5, 5, 5}},
		{3, 5, last + 1, []int{5, last, last}},
		{3, 5, mostInt, []int{5, last, last}},
		{3, leastInt, mostInt, []int{0, last, last}},
		{3, mostInt, leastInt, []int{last, last, last}},
		{1, leastInt, leastInt, []int{0}},
	} {
		if got := pace.Plan(x.n, x.from, x.stagger); !slices.Equal(got, x.want) {
			t.Error(x, got)
		}
	}
}

// P14.2: whatever the numbers are, the first one starts at from, and each other one a stagger behind the one ahead.
func TestPlanOfAll(t *testing.T) {
	for _, n := range numbers() {
		for _, from := range numbers() {
			for _, stagger := range numbers() {
				got := pace.Plan(n, from, stagger)
				if want := max(0, min(n, tries)); len(got) != want {
					t.Fatal(n, from, stagger, got)
				}
				next := count(from)
				for _, at := range got {
					if at != next {
						t.Fatal(n, from, stagger, got)
					}
					next = later(at, stagger)
				}
			}
		}
	}
}

// P14.3: Keeps of histories that keep the pace of 3, and of such as do not.
func TestKeeps(t *testing.T) {
	for _, x := range []struct {
		what, l string
		want    bool
	}{
		{"nothing", "", true},
		{"one start", "s0@5", true},
		{"one start at 0", "s0@0", true},
		{"one start at the greatest tick", "s0@last", true},
		{"the chapter's first example", "s0@5 s1@7", false},
		{"the chapter's second example", "s0@5 f0@7 s1@7", true},
		{"the stagger between them exactly", "s0@5 s1@8", true},
		{"one tick more", "s0@5 s1@9", true},
		{"one tick less", "s0@5 s1@7", false},
		{"at once", "s0@5 s1@5", false},
		{"the failure of the one ahead between them", "s0@5 f0@6 s1@7", true},
		{"its failure at once", "s0@5 f0@5 s1@5", true},
		{"its failure, and the stagger", "s0@5 f0@6 s1@8", true},
		{"its failure behind the start", "s0@5 s1@7 f0@7", false},
		{"its failure behind the start, and the stagger", "s0@5 s1@8 f0@8", true},
		{"the failure of an earlier one between them", "s0@5 s1@8 f0@9 s2@9", false},
		{"the failure of the last one between them", "s0@5 s1@8 f1@9 s2@9", true},
		{"the failures of both between them", "s0@5 s1@8 f0@9 f1@9 s2@9", true},
		{"the failures of both, the later one first", "s0@5 s1@8 f1@9 f0@9 s2@9", true},
		{"the failure of the first one, twice as much as that", "s0@5 f0@6 s1@6 s2@8", false},
		{"the stagger behind the last one", "s0@5 f0@6 s1@6 s2@9", true},
		{"the stagger behind the first one alone", "s0@5 s1@8 s2@9", false},
		{"one failure for two", "s0@5 f0@5 s1@5 s2@5", false},
		{"each by a failure", "s0@5 f0@5 s1@5 f1@5 s2@5 f2@5", true},
		{"each by the stagger", "s0@5 s1@8 s2@11 s3@14", true},
		{"the last one too early", "s0@5 s1@8 s2@11 s3@13", false},
		{"failures at the end, in another order", "s0@5 s1@8 s2@11 f2@12 f0@12 f1@13", true},
		{"more than may start in a race", "s0@0 s1@3 s2@6 s3@9 s4@12 s5@15 s6@18 s7@21 s8@24 s9@27", true},
	} {
		if got := pace.Keeps(3, read(x.l)...); got != x.want {
			t.Errorf("%s: %q: %v", x.what, x.l, got)
		}
	}
	if !pace.Keeps(3, []api.Pace{}...) {
		t.Error("an empty history")
	}
}

// P14.3: Keeps of histories that are none: failures of who has not started, or has failed, starts out of order, ticks that fall, at the end and ahead of it.
func TestKeepsOfWrongHistories(t *testing.T) {
	for _, x := range []struct {
		what, l string
		want    bool
	}{
		{"a failure alone", "f0@5", false},
		{"a failure ahead of its start", "f0@5 s0@5", false},
		{"a failure of one that has not started", "s0@5 f1@9", false},
		{"a failure of one that starts later", "s0@5 f1@8 s1@8", false},
		{"a failure of one far off", "s0@5 f2@9", false},
		{"a failure that is told twice", "s0@5 f0@6 f0@6", false},
		{"a failure that is told twice, later", "s0@5 f0@6 s1@6 f0@9", false},
		{"a failure that is told three times", "s0@5 f0@6 s1@6 f1@7 f0@9 f0@9", false},
		{"starts from 1 on", "s1@5", false},
		{"starts from 1 on, and 0", "s1@5 s0@8", false},
		{"one start twice", "s0@5 s0@8", false},
		{"one start twice, failed", "s0@5 f0@6 s0@8", false},
		{"one is left out", "s0@5 s2@8", false},
		{"one is left out, failed", "s0@5 f0@6 s2@8", false},
		{"out of order", "s0@5 s2@8 s1@11", false},
		{"the second one twice", "s0@5 s1@8 s1@11", false},
		{"back to the first one", "s0@5 s1@8 s0@11", false},
		{"ticks that fall to a failure", "s0@5 f0@4", false},
		{"ticks that fall to a start", "s0@5 f0@6 s1@5", false},
		{"ticks that fall to the first start", "s0@5 f0@5 s1@4", false},
		{"ticks that fall by much", "s0@last f0@0", false},
		{"ticks that fall at the end", "s0@5 s1@8 s2@11 f1@10", false},
		{"what is wrong ahead of what is not", "f0@0 s0@5 s1@8", false},
		{"what is wrong at the end of much that is not", "s0@5 f0@5 s1@5 s2@8 f1@9 f2@10 s3@11 f4@11", false},
		{"a start below 0", "s-1@5", false},
		{"a start below 0 ahead of the first one", "s-1@5 s0@8", false},
		{"a start below 0 behind the first one", "s0@5 s-1@8", false},
		{"the least start", "sleast@5", false},
		{"the greatest start", "smost@5", false},
		{"the greatest start behind the first one", "s0@5 smost@8", false},
		{"a failure below 0", "s0@5 f-1@8", false},
		{"a failure below 0 alone", "f-1@5", false},
		{"the least failure", "s0@5 fleast@8", false},
		{"the greatest failure", "s0@5 fmost@8", false},
	} {
		if got := pace.Keeps(3, read(x.l)...); got != x.want {
			t.Errorf("%s: %q: %v", x.what, x.l, got)
		}
	}
}

// P14.3: ticks are compared as they are, not as they count; what is old is told by what they count as; so is the stagger.
func TestKeepsOfWrongTicks(t *testing.T) {
	for _, x := range []struct {
		what    string
		stagger int
		l       string
		want    bool
	}{
		{"below 0", 3, "s0@-5", true},
		{"the least", 3, "s0@least", true},
		{"the greatest", 3, "s0@most", true},
		{"a fall below 0", 0, "s0@-1 f0@-2", false},
		{"a fall to below 0", 0, "s0@0 f0@-1", false},
		{"a fall below 0 to the least", 0, "s0@-1 s1@least", false},
		{"a fall above the greatest tick", 0, "s0@1073741826 s1@1073741825", false},
		{"a fall to the greatest tick", 0, "s0@1073741825 f0@last", false},
		{"a fall from the greatest number", 0, "s0@most f0@last", false},
		{"a fall from one end to the other", 0, "s0@most f0@least", false},
		{"a rise below 0, without a stagger", 0, "s0@-2 s1@-1 s2@0", true},
		{"a rise below 0 by less than counts", 3, "s0@-5 s1@-2", false},
		{"a rise from below 0 by less than counts", 3, "s0@-5 s1@2", false},
		{"a rise from below 0 by what counts", 3, "s0@-5 s1@3", true},
		{"a rise from the least", 3, "s0@least s1@2", false},
		{"a rise from the least by what counts", 3, "s0@least s1@3", true},
		{"a failure below 0", 3, "s0@-5 f0@-4 s1@-3", true},
		{"one that is the same below 0", 0, "s0@-5 s1@-5", true},
		{"at the greatest tick", 3, "s0@last s1@last", true},
		{"ahead of the greatest tick", 3, "s0@1073741822 s1@1073741823", false},
		{"up to the greatest tick", 3, "s0@1073741822 s1@last", true},
		{"past the greatest tick", 3, "s0@1073741825 s1@1073741825 s2@most", true},
		{"from one end to the other", mostInt, "s0@least s1@most", true},
		{"the greatest stagger", mostInt, "s0@0 s1@1073741823", false},
		{"the greatest stagger, at the greatest tick", mostInt, "s0@0 s1@last", true},
		{"the greatest tick as a stagger", last, "s0@5 s1@1073741823", false},
		{"the greatest tick as a stagger, at the greatest tick", last, "s0@5 s1@last", true},
		{"no stagger", 0, "s0@5 s1@5 s2@5", true},
		{"a stagger below 0", -3, "s0@5 s1@5", true},
		{"the least stagger", leastInt, "s0@5 s1@5", true},
		{"a stagger below 0, and a fall", -3, "s0@5 s1@4", false},
	} {
		if got := pace.Keeps(x.stagger, read(x.l)...); got != x.want {
			t.Errorf("%s: %d, %q: %v", x.what, x.stagger, x.l, got)
		}
	}
}

// P14.3: all short histories, held against what the chapter says.
func TestKeepsOfAll(t *testing.T) {
	all := slices.Concat(
		lists(5, paces([]int{0, 1, 2}, 0, 2)...),
		lists(3, paces([]int{-1, 0, 1, 2}, -2, 0, 3)...),
		lists(2, paces([]int{leastInt, -1, 0, 1, mostInt}, leastInt, -1, 0, last-1, last, last+1, mostInt)...),
	)
	for _, l := range all {
		for _, stagger := range []int{-1, 0, 1, 2, 3} {
			if got := pace.Keeps(stagger, l...); got != keeps(stagger, l) {
				t.Fatal(stagger, l, got)
			}
		}
	}
}

// P14.3: whatever stands behind histories that keep the pace, longer ones, too, held against what the chapter says.
func TestKeepsOfMore(t *testing.T) {
	things := paces([]int{0, 1, 2, 3}, 0, 1, 2, 3)
	for stagger := range 4 {
		kept := [][]api.Pace{nil}
		for range 7 {
			var longer [][]api.Pace
			for _, l := range kept {
				for _, p := range things {
					next := append(slices.Clone(l), p)
					want := keeps(stagger, next)
					if got := pace.Keeps(stagger, next...); got != want {
						t.Fatal(stagger, next, got)
					}
					if want {
						longer = append(longer, next)
					}
				}
			}
			kept = longer
		}
		if len(kept) == 0 {
			t.Error("none", stagger)
		}
	}
}

// P14.3: Starts of none, of failures alone, of both, in order, as they are.
func TestStarts(t *testing.T) {
	for _, x := range []struct {
		l    string
		want []int
	}{
		{"", nil},
		{"f0@5", nil},
		{"f0@5 f1@7 f0@9", nil},
		{"s0@5", []int{5}},
		{"s0@5 s1@8 s2@11", []int{5, 8, 11}},
		{"s0@5 f0@7 s1@7", []int{5, 7}},
		{"f0@4 s0@5 f0@7 s1@7 f1@9", []int{5, 7}},
		{"s0@5 s1@5 s2@5", []int{5, 5, 5}},
		{"s2@9 s0@5 s1@7", []int{9, 5, 7}},
		{"s0@5 s0@5", []int{5, 5}},
		{"s-1@3 smost@1 sleast@2", []int{3, 1, 2}},
		{"s0@least f1@0 s0@-1 s0@0 s0@last s0@most", []int{leastInt, -1, 0, last, mostInt}},
	} {
		if got := pace.Starts(read(x.l)...); !slices.Equal(got, x.want) {
			t.Errorf("%q: %v", x.l, got)
		}
	}
	if got := pace.Starts([]api.Pace{}...); len(got) != 0 {
		t.Error(got)
	}
}

// P14.4: what is planned keeps the pace of its stagger and of each lesser one; and its starts are what was planned.
func TestPlanKeeps(t *testing.T) {
	for _, n := range []int{-1, 0, 1, 2, 3, 7, 8, 9, mostInt} {
		for _, from := range numbers() {
			for _, stagger := range numbers() {
				plan := pace.Plan(n, from, stagger)
				l := starts(plan...)
				for _, less := range append(numbers(), stagger) {
					if less <= stagger && !pace.Keeps(less, l...) {
						t.Fatal(n, from, stagger, less, plan)
					}
				}
				if got := pace.Starts(l...); !slices.Equal(got, plan) {
					t.Fatal(n, from, stagger, plan, got)
				}
			}
		}
	}
}

// P14.4: what is planned is not kept by a greater stagger, and none may start ahead of what is planned.
func TestPlanIsTheFirst(t *testing.T) {
	for stagger := range 5 {
		plan := pace.Plan(4, 5, stagger)
		if pace.Keeps(stagger+1, starts(plan...)...) {
			t.Error(stagger, plan)
		}
		for n := 1; n < len(plan); n++ {
			if at, ok := pace.When(n, len(plan), plan[n-1], stagger); !ok || at != plan[n] {
				t.Error(stagger, plan, n, at, ok)
			}
			early := slices.Clone(plan[:n+1])
			early[n]--
			if pace.Keeps(stagger, starts(early...)...) {
				t.Error(stagger, early)
			}
		}
	}
}

// P14.4: a history that keeps the pace keeps that of a lesser stagger, too.
func TestKeepsOfLess(t *testing.T) {
	staggers := []int{leastInt, -1, 0, 1, 2, 3, 4, last - 1, last, last + 1, mostInt}
	for _, l := range slices.Concat(
		lists(4, paces([]int{0, 1, 2}, 0, 3)...),
		lists(2, paces([]int{0, 1}, leastInt, -1, 0, 1, 2, 3, 4, last-1, last, last+1, mostInt)...),
	) {
		kept := true
		for _, stagger := range staggers {
			now := pace.Keeps(stagger, l...)
			if now && !kept {
				t.Fatal(l, stagger)
			}
			kept = now
		}
	}
}

// P14.4: who may start at a tick may start later.
func TestMayLater(t *testing.T) {
	for _, started := range []int{leastInt, -1, 0, 1, 2, 3, mostInt} {
		for _, since := range numbers() {
			for _, stagger := range numbers() {
				for _, failed := range []bool{false, true} {
					might := false
					for _, now := range numbers() {
						may := pace.May(started, 3, failed, since, stagger, now)
						if might && !may {
							t.Fatal(started, failed, since, stagger, now)
						}
						might = may
					}
				}
			}
		}
	}
}

// P14.1 and P14.3: a history goes on keeping the pace just where May says that the next one may start.
func TestKeepsByMay(t *testing.T) {
	for _, l := range lists(4, paces([]int{0, 1, 2}, 0, 3)...) {
		for stagger := range 5 {
			if !pace.Keeps(stagger, l...) {
				continue
			}
			at := pace.Starts(l...)
			n, since := len(at), 0
			if n > 0 {
				since = at[n-1]
			}
			failed := slices.ContainsFunc(l, func(p api.Pace) bool { return p.Fail && p.N == n-1 })
			for now := range 9 {
				if len(l) > 0 && now < l[len(l)-1].At {
					continue
				}
				next := append(slices.Clone(l), api.Pace{N: n, At: now})
				if pace.Keeps(stagger, next...) != pace.May(n, n+1, failed, since, stagger, now) {
					t.Fatal(l, stagger, now)
				}
			}
		}
	}
}

// R4: what is handed in stays as it was, spare room behind it included.
func TestNothingChanged(t *testing.T) {
	spare := read("s7@70 f8@80 s9@90")
	for _, of := range lists(3, paces([]int{0, 1}, 0, 3)...) {
		whole := slices.Concat(of, spare)
		was := slices.Clone(whole)
		l := whole[:len(of)]
		pace.Keeps(3, l...)
		pace.Starts(l...)
		if !slices.Equal(whole, was) {
			t.Fatal(of, whole)
		}
	}
}

// R4: what is answered is new memory, and so are two answers: what is done to one is not seen in another, or in what was handed in.
func TestMemoryOfItsOwn(t *testing.T) {
	l := slices.Grow(read("s0@5 f0@6 s1@7 s2@10"), 9)
	was := slices.Clone(l)
	for i, call := range []func() []int{
		func() []int { return pace.Starts(l...) },
		func() []int { return pace.Starts(l[:1]...) },
		func() []int { return pace.Starts() },
		func() []int { return pace.Plan(0, 5, 3) },
		func() []int { return pace.Plan(1, 5, 3) },
		func() []int { return pace.Plan(3, 5, 3) },
		func() []int { return pace.Plan(9, 5, 3) },
	} {
		first, second := call(), call()
		want := slices.Clone(first)
		scratch(second)
		if !slices.Equal(first, want) || !slices.Equal(l, was) {
			t.Fatal(i, first, l)
		}
		scratch(first)
		if !slices.Equal(call(), want) || !slices.Equal(l, was) {
			t.Fatal(i, l)
		}
	}
}

// scratch writes over all of l, and the room behind it.
func scratch(l []int) {
	l = l[:cap(l)]
	for n := range l {
		l[n] = -1
	}
}

// R3: the same again, whatever was asked between.
func TestAgain(t *testing.T) {
	l := read("s0@5 f0@6 s1@7 s2@10")
	at := pace.Starts(l...)
	plan := pace.Plan(3, 5, 3)
	for range 50 {
		pace.Plan(8, last, 0)
		pace.Starts(starts(plan...)...)
		if pace.Keeps(4, l...) || pace.Keeps(3, read("f0@0")...) || !pace.Keeps(3, l...) {
			t.Fatal("keeps")
		}
		if pace.May(1, 2, false, 5, 3, 7) || !pace.May(1, 2, true, 5, 3, 7) || !pace.May(1, 2, false, 5, 3, 8) {
			t.Fatal("may")
		}
		if when, ok := pace.When(1, 2, 5, 3); when != 8 || !ok {
			t.Fatal(when, ok)
		}
		if !slices.Equal(pace.Starts(l...), at) || !slices.Equal(pace.Plan(3, 5, 3), plan) {
			t.Fatal("not the same again")
		}
	}
}

// R1: long histories end: of starts, and of failures told in order and from the last one on.
func TestLong(t *testing.T) {
	const length = 200000
	var at []int
	for n := range length {
		at = append(at, 3*n)
	}
	l := starts(at...)
	if !pace.Keeps(3, l...) || pace.Keeps(4, l...) {
		t.Error("starts")
	}
	if !slices.Equal(pace.Starts(l...), at) {
		t.Error("their ticks")
	}
	forth, back := slices.Clone(l), slices.Clone(l)
	for n := range length {
		forth = append(forth, api.Pace{Fail: true, N: n, At: 3 * length})
		back = append(back, api.Pace{Fail: true, N: length - 1 - n, At: 3 * length})
	}
	if !pace.Keeps(3, forth...) || !pace.Keeps(3, back...) {
		t.Error("failures")
	}
	if pace.Keeps(3, append(forth, api.Pace{Fail: true, N: length / 2, At: 3 * length})...) {
		t.Error("one failure twice")
	}
}
