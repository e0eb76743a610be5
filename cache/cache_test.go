package cache_test

import (
	"fmt"
	"slices"
	"strings"
	"testing"

	"switchboard/api"
	"switchboard/cache"
)

const (
	mostInt  = int(^uint(0) >> 1)
	leastInt = -mostInt - 1

	// The greatest tick, written out, so that the tests do not hang on what they test against.
	last = 1073741824

	noName  = api.Errno(110)
	rowText = "1.2.3.4:80 [::1]:9"
)

// ticks are ticks, and what counts as one.
func ticks() []int {
	return []int{leastInt, leastInt + 1, -last, -1, 0, 1, 2, 10, 13, last - 3, last - 1, last, last + 1, mostInt - 1, mostInt}
}

// counts answers the tick that t counts as, by the words of it.
func counts(t int) int {
	switch {
	case t < 0:
		return 0
	case t > last:
		return last
	}
	return t
}

// later answers the tick that is n later than t.
func later(t, n int) int {
	return counts(counts(t) + counts(n))
}

// row answers an entry of that name that is OK, and whose row hangs on it and on until.
func row(name string, until int) api.Known {
	return api.Known{Name: name, Row: fmt.Sprintf("row of %q, %d", name, until), Until: until}
}

// bare answers an entry of that name that has none.
func bare(name string, until int) api.Known {
	return api.Known{Name: name, E: noName, Until: until}
}

// names answers those of l, in order.
func names(l []api.Known) []string {
	var all []string
	for _, k := range l {
		all = append(all, k.Name)
	}
	return all
}

// named answers entries of those names, each unlike the others by its Until.
func named(all ...string) []api.Known {
	var l []api.Known
	for n, name := range all {
		l = append(l, row(name, 100+n))
	}
	return l
}

// lists are all lists of up to length of the things, the short ones first.
func lists[T any](length int, things ...T) [][]T {
	all := [][]T{nil}
	from := 0
	for range length {
		to := len(all)
		for _, l := range all[from:to] {
			for _, v := range things {
				all = append(all, append(slices.Clone(l), v))
			}
		}
		from = to
	}
	return all
}

// odd are entries, and values that may not be one.
func odd() []api.Known {
	return []api.Known{
		{},
		{Until: mostInt},
		{Row: rowText, E: noName, Until: 5},
		{Name: "a", Row: rowText, E: noName, Until: leastInt},
		{Name: "a", E: -1, Until: 7},
		{Name: "b", Row: "\xff \x00", Until: -1},
		{Name: "A b\n", Row: rowText, E: api.Errno(mostInt), Until: last + 1},
		{Name: strings.Repeat("z", 1000), Until: last},
		{Name: "\xff\x80", Until: 6},
	}
}

// alike says, one by one, whether a and b are the same in the same order.
func alike(a, b []api.Known) bool {
	if len(a) != len(b) {
		return false
	}
	for i := range a {
		if a[i] != b[i] {
			return false
		}
	}
	return true
}

// wantGet, wantPut, wantFresh and wantMay say what the chapter says, by other means.
func wantGet(l []api.Known, name string, now int) (api.Known, bool) {
	at := slices.Index(names(l), name)
	if at < 0 || counts(now) >= counts(l[at].Until) {
		return api.Known{}, false
	}
	return l[at], true
}

func wantPut(l []api.Known, more ...api.Known) []api.Known {
	for _, k := range more {
		if at := slices.Index(names(l), k.Name); at >= 0 {
			l = slices.Concat(l[:at], []api.Known{k}, l[at+1:])
			continue
		}
		at := 0
		for at < len(l) && strings.Compare(l[at].Name, k.Name) < 0 {
			at++
		}
		l = slices.Concat(l[:at], []api.Known{k}, l[at:])
	}
	return l
}

func wantFresh(l []api.Known, now int) []api.Known {
	var some []api.Known
	for _, k := range l {
		if counts(now) < counts(k.Until) {
			some = append(some, k)
		}
	}
	return some
}

func wantMay(l []api.Known) bool {
	all := names(l)
	rising := slices.IsSorted(all) && len(slices.Compact(slices.Clone(all))) == len(all)
	return rising && !slices.Contains(all, "") &&
		!slices.ContainsFunc(l, func(k api.Known) bool { return k.E != 0 && len(k.Row) > 0 })
}

// P11.1: addresses are kept TTL ticks, with their row; NegTTL has no say.
func TestEntryOK(t *testing.T) {
	for _, ttl := range ticks() {
		for _, now := range ticks() {
			for _, text := range []string{"", rowText, "no row \xff"} {
				for _, negTTL := range []int{0, 77, mostInt} {
					k := cache.Entry(api.Conf{TTL: ttl, NegTTL: negTTL}, "wien", text, 0, now)
					want := api.Known{Name: "wien", Row: text, E: 0, Until: later(now, ttl)}
					if k != want {
						t.Fatalf("ttl %d, now %d: %v, want %v", ttl, now, k, want)
					}
				}
			}
		}
	}
}

// P11.1: that it has none is kept NegTTL ticks, without a row, whatever is not OK; TTL has no say.
func TestEntryNotOK(t *testing.T) {
	for _, negTTL := range ticks() {
		for _, now := range ticks() {
			for _, text := range []string{"", rowText} {
				for _, e := range []api.Errno{noName, 2, 1, -1, 110000, api.Errno(leastInt), api.Errno(mostInt)} {
					k := cache.Entry(api.Conf{TTL: 77, NegTTL: negTTL}, "wien", text, e, now)
					want := api.Known{Name: "wien", Row: "", E: e, Until: later(now, negTTL)}
					if k != want {
						t.Fatalf("negTTL %d, now %d: %v, want %v", negTTL, now, k, want)
					}
				}
			}
		}
	}
}

// P11.1: until when, in numbers, at the ends of what a tick may be and beyond them.
func TestEntryUntil(t *testing.T) {
	for _, x := range []struct{ now, ttl, until int }{
		{10, 3, 13}, {10, 0, 10}, {10, 1, 11}, {10, -1, 10}, {10, leastInt, 10}, {10, mostInt, last},
		{0, 0, 0}, {0, 5, 5}, {-1, 5, 5}, {leastInt, 5, 5}, {leastInt, leastInt, 0}, {-7, 0, 0},
		{last - 1, 1, last}, {last - 1, 2, last}, {last, 0, last}, {last, 1, last}, {last + 1, 0, last}, {mostInt, 1, last}, {mostInt, mostInt, last}, {mostInt, leastInt, last},
		{0, last, last}, {1, last, last}, {0, last + 1, last}, {0, last - 1, last - 1},
	} {
		if k := cache.Entry(api.Conf{TTL: x.ttl}, "a", rowText, 0, x.now); k.Until != x.until {
			t.Errorf("TTL %d at %d: %d, want %d", x.ttl, x.now, k.Until, x.until)
		}
		if k := cache.Entry(api.Conf{NegTTL: x.ttl}, "a", rowText, noName, x.now); k.Until != x.until {
			t.Errorf("NegTTL %d at %d: %d, want %d", x.ttl, x.now, k.Until, x.until)
		}
	}
}

// P11.1: the name is as it is, one that is none, too; the rest of a configuration has no say.
func TestEntryName(t *testing.T) {
	c := api.Conf{PerHost: 1, Idle: -1, Waiters: mostInt, Attempts: leastInt, Stagger: 6, IdleAge: 7, TTL: 3, NegTTL: 2, ScarAge: 9}
	for _, name := range []string{"", "a", "Wien.Example", "a b", "\xff\x00", strings.Repeat("n", 1000)} {
		if k := cache.Entry(c, name, rowText, 0, 10); k != (api.Known{Name: name, Row: rowText, Until: 13}) {
			t.Error(name, k)
		}
		if k := cache.Entry(c, name, rowText, noName, 10); k != (api.Known{Name: name, E: noName, Until: 12}) {
			t.Error(name, k)
		}
	}
}

// P11.1: which may stand so, and which may not.
func TestMay(t *testing.T) {
	bad := api.Known{Name: "b", Row: rowText, E: noName}
	for i, x := range []struct {
		l    []api.Known
		want bool
	}{
		{nil, true},
		{[]api.Known{}, true},
		{named("a"), true},
		{named("a", "b", "c"), true},
		{named("a", "c", "b"), false},
		{named("b", "a"), false},
		{named("a", "b", "a"), false},
		{named("a", "a"), false},
		{named("a", "b", "b"), false},
		{named(""), false},
		{named("", "a"), false},
		{named("a", ""), false},
		{named("", ""), false},
		{[]api.Known{{}}, false},
		{[]api.Known{bad}, false},
		{[]api.Known{row("a", 1), bad, row("c", 1)}, false},
		{[]api.Known{row("a", 1), bad}, false},
		{[]api.Known{bad, row("c", 1)}, false},
		{[]api.Known{bare("b", 1)}, true},
		{[]api.Known{row("a", 1), bare("b", 1), row("c", 1)}, true},
		{[]api.Known{{Name: "b", Row: rowText}}, true},
		{[]api.Known{{Name: "b"}}, true},
		{[]api.Known{{Name: "b", Row: " ", E: -1}}, false},
		{[]api.Known{{Name: "b", E: -1}}, true},
		{[]api.Known{{Name: "b", E: api.Errno(leastInt)}}, true},
		{[]api.Known{{Name: "b", Row: "x", E: api.Errno(mostInt)}}, false},
		{[]api.Known{{Name: "", E: noName}}, false},
	} {
		if cache.May(x.l...) != x.want {
			t.Error(i, x.l, !x.want)
		}
	}
}

// P11.1: bytewise rising: what is longer behind what begins it, great letters ahead of small ones, bytes above 127 behind all of those.
func TestMayBytewise(t *testing.T) {
	l := []string{"\x00", "\x00\x00", "-", "1", "10", "9", "A", "Z", "a", "a.", "a.b", "aa", "ab", "b", "wien", "wien.example", "z", "\x7f", "\x80", "\xc3\xa4", "\xe4", "\xff", "\xff\xff"}
	if !cache.May(named(l...)...) {
		t.Error("rising")
	}
	for i, a := range l {
		for j, b := range l {
			if cache.May(named(a, b)...) != (i < j) {
				t.Errorf("%q, %q: %v", a, b, i >= j)
			}
		}
	}
}

// P11.1: Until has no say in what may be.
func TestMayUntil(t *testing.T) {
	for _, l := range lists(3, ticks()...) {
		var all []api.Known
		for n, until := range l {
			all = append(all, row(string(rune('a'+n)), until))
		}
		if !cache.May(all...) {
			t.Fatal(all)
		}
	}
}

// P11.1: all lists of up to three of some entries, by the words of the chapter.
func TestMayAll(t *testing.T) {
	for _, l := range lists(3, append(odd(), row("a", 3), bare("aa", 3), row("c", 3))...) {
		if cache.May(l...) != wantMay(l) {
			t.Fatal(l, !wantMay(l))
		}
	}
}

// P11.2: an entry that is first, in the middle, last, and not there; names as they stand, byte by byte.
func TestGet(t *testing.T) {
	l := []api.Known{row("a", 13), bare("b", 13), row("wien", 13), row("wien.example", 13), row("\xff", 13)}
	for _, want := range l {
		if k, ok := cache.Get(l, want.Name, 10); !ok || k != want {
			t.Error(want, k, ok)
		}
	}
	for _, name := range []string{"", "A", "aa", "wie", "Wien", "wien.", "wien.example.", "z", "\xff\xff", "\xfe"} {
		if k, ok := cache.Get(l, name, 10); ok || k != (api.Known{}) {
			t.Error(name, k, ok)
		}
	}
	for _, none := range [][]api.Known{nil, {}} {
		if k, ok := cache.Get(none, "", 0); ok || k != (api.Known{}) {
			t.Error(k, ok)
		}
	}
}

// P11.2: one tick ahead of Until it is fresh; at it and behind it, it is not, and the entry that is answered is a zero one.
func TestGetUntil(t *testing.T) {
	for _, x := range []struct {
		until, now int
		want       bool
	}{
		{13, 12, true}, {13, 13, false}, {13, 14, false}, {13, 0, true}, {13, -1, true}, {13, leastInt, true}, {13, last, false}, {13, mostInt, false},
		{1, 0, true}, {1, -1, true}, {1, leastInt, true}, {1, 1, false},
		{0, 0, false}, {0, -1, false}, {0, leastInt, false}, {0, mostInt, false},
		{-1, -2, false}, {-1, leastInt, false}, {leastInt, leastInt, false}, {leastInt, mostInt, false}, {leastInt, 0, false},
		{last, last - 1, true}, {last, last, false}, {last, last + 1, false}, {last, mostInt, false}, {last, leastInt, true},
		{last + 1, last - 1, true}, {last + 1, last, false}, {mostInt, last - 1, true}, {mostInt, last, false}, {mostInt, last + 1, false}, {mostInt, mostInt - 1, false}, {mostInt, leastInt, true},
	} {
		for _, want := range []api.Known{row("b", x.until), bare("b", x.until)} {
			l := []api.Known{row("a", 5), want, row("c", 5)}
			k, ok := cache.Get(l, "b", x.now)
			if !x.want {
				want = api.Known{}
			}
			if ok != x.want || k != want {
				t.Error(x, k, ok)
			}
		}
	}
}

// P11.2: the first of that name counts, though the second alone were fresh; and where they are out of order, too.
func TestGetTwice(t *testing.T) {
	l := []api.Known{row("b", 5), row("a", 9), row("b", 9), row("c", 9), row("a", 20)}
	for _, x := range []struct {
		name string
		now  int
		at   int
	}{
		{"b", 4, 0}, {"b", 5, -1}, {"b", 8, -1}, {"a", 8, 1}, {"a", 9, -1}, {"a", 19, -1}, {"c", 8, 3},
	} {
		k, ok := cache.Get(l, x.name, x.now)
		want := api.Known{}
		if x.at >= 0 {
			want = l[x.at]
		}
		if ok != (x.at >= 0) || k != want {
			t.Error(x, k, ok)
		}
	}
}

// P11.2: Get of what may not be, and of an empty name, by the words of the chapter.
func TestGetOdd(t *testing.T) {
	for _, l := range lists(3, odd()...) {
		for _, name := range []string{"", "a", "b", "A b\n", "\xff\x80", "none"} {
			for _, now := range []int{leastInt, 0, 5, 6, last - 1, last, mostInt} {
				want, yes := wantGet(l, name, now)
				if k, ok := cache.Get(l, name, now); ok != yes || k != want {
					t.Fatal(l, name, now, k, ok)
				}
			}
		}
	}
}

// P11.2: ahead of all, between, behind all, in place of one, several at once, the same name twice.
func TestPut(t *testing.T) {
	some := named("b", "d", "f")
	for i, x := range []struct {
		l, more, want []api.Known
	}{
		{nil, nil, nil},
		{some, nil, some},
		{nil, []api.Known{row("x", 1)}, []api.Known{row("x", 1)}},
		{some, []api.Known{row("a", 1)}, []api.Known{row("a", 1), some[0], some[1], some[2]}},
		{some, []api.Known{row("c", 1)}, []api.Known{some[0], row("c", 1), some[1], some[2]}},
		{some, []api.Known{row("e", 1)}, []api.Known{some[0], some[1], row("e", 1), some[2]}},
		{some, []api.Known{row("g", 1)}, []api.Known{some[0], some[1], some[2], row("g", 1)}},
		{some, []api.Known{bare("b", 1)}, []api.Known{bare("b", 1), some[1], some[2]}},
		{some, []api.Known{bare("d", 1)}, []api.Known{some[0], bare("d", 1), some[2]}},
		{some, []api.Known{bare("f", 1)}, []api.Known{some[0], some[1], bare("f", 1)}},
		{some, []api.Known{row("g", 1), bare("d", 2), row("a", 3)}, []api.Known{row("a", 3), some[0], bare("d", 2), some[2], row("g", 1)}},
		{some, []api.Known{row("c", 1), bare("c", 2)}, []api.Known{some[0], bare("c", 2), some[1], some[2]}},
		{some, []api.Known{bare("d", 1), row("d", 2)}, []api.Known{some[0], row("d", 2), some[2]}},
		{nil, []api.Known{row("c", 1), row("a", 2), row("b", 3), row("a", 4)}, []api.Known{row("a", 4), row("b", 3), row("c", 1)}},
		{some, []api.Known{row("b.c", 1)}, []api.Known{some[0], row("b.c", 1), some[1], some[2]}},
		{some, []api.Known{row("B", 1)}, []api.Known{row("B", 1), some[0], some[1], some[2]}},
		{some, []api.Known{row("\xff", 1), row("\x80", 2)}, []api.Known{some[0], some[1], some[2], row("\x80", 2), row("\xff", 1)}},
		{some, []api.Known{row("", 1)}, []api.Known{row("", 1), some[0], some[1], some[2]}},
		{named("", "a"), []api.Known{bare("", 1)}, []api.Known{bare("", 1), named("", "a")[1]}},
	} {
		if l := cache.Put(x.l, x.more...); !alike(l, x.want) {
			t.Errorf("%d: %v, want %v", i, l, x.want)
		}
	}
}

// P11.2: where they are out of order, or twice there: the first of that name goes ahead of the first of a greater one.
func TestPutOutOfOrder(t *testing.T) {
	l := named("d", "b", "f", "b", "a")
	for i, x := range []struct {
		name string
		want []api.Known
	}{
		{"b", []api.Known{l[0], bare("b", 1), l[2], l[3], l[4]}},
		{"a", []api.Known{l[0], l[1], l[2], l[3], bare("a", 1)}},
		{"d", []api.Known{bare("d", 1), l[1], l[2], l[3], l[4]}},
		{"c", []api.Known{bare("c", 1), l[0], l[1], l[2], l[3], l[4]}},
		{"e", []api.Known{l[0], l[1], bare("e", 1), l[2], l[3], l[4]}},
		{"g", []api.Known{l[0], l[1], l[2], l[3], l[4], bare("g", 1)}},
		{"", []api.Known{bare("", 1), l[0], l[1], l[2], l[3], l[4]}},
	} {
		if got := cache.Put(l, bare(x.name, 1)); !alike(got, x.want) {
			t.Errorf("%d: %v, want %v", i, got, x.want)
		}
	}
}

// P11.2: entries that may not be are put as they are.
func TestPutOdd(t *testing.T) {
	for _, l := range lists(2, odd()...) {
		for _, more := range lists(3, odd()...) {
			if got, want := cache.Put(l, more...), wantPut(l, more...); !alike(got, want) {
				t.Fatalf("%v, %v: %v, want %v", l, more, got, want)
			}
		}
	}
}

// P11.2: all lists of up to four names, in whatever order, and up to three more of them.
func TestPutAll(t *testing.T) {
	all := []string{"a", "aa", "b", "\xe4"}
	for _, of := range lists(4, all...) {
		l := named(of...)
		for _, put := range lists(3, all...) {
			var more []api.Known
			for n, name := range put {
				more = append(more, bare(name, n))
			}
			if got, want := cache.Put(l, more...), wantPut(l, more...); !alike(got, want) {
				t.Fatalf("%q, %q: %v, want %v", of, put, got, want)
			}
		}
	}
}

// P11.2: several at once are the same as one behind the other.
func TestPutOneByOne(t *testing.T) {
	l := named("b", "d", "b", "c")
	for _, put := range lists(4, "a", "b", "c", "e") {
		more := named(put...)
		one := slices.Clone(l)
		for _, k := range more {
			one = cache.Put(one, k)
		}
		if got := cache.Put(l, more...); !alike(got, one) {
			t.Fatalf("%q: %v, want %v", put, got, one)
		}
	}
}

// P11.2: those that are fresh, in order: none, some, all.
func TestFresh(t *testing.T) {
	l := []api.Known{row("a", 5), bare("b", 9), row("c", 5), row("d", 7), bare("e", 0), row("f", mostInt)}
	for _, x := range []struct {
		now  int
		want []api.Known
	}{
		{leastInt, []api.Known{l[0], l[1], l[2], l[3], l[5]}},
		{-1, []api.Known{l[0], l[1], l[2], l[3], l[5]}},
		{0, []api.Known{l[0], l[1], l[2], l[3], l[5]}},
		{4, []api.Known{l[0], l[1], l[2], l[3], l[5]}},
		{5, []api.Known{l[1], l[3], l[5]}},
		{6, []api.Known{l[1], l[3], l[5]}},
		{7, []api.Known{l[1], l[5]}},
		{9, []api.Known{l[5]}},
		{last - 1, []api.Known{l[5]}},
		{last, nil},
		{mostInt, nil},
	} {
		if got := cache.Fresh(l, x.now); !alike(got, x.want) {
			t.Error(x.now, got)
		}
	}
	if got := cache.Fresh(l[:4], 4); !alike(got, l[:4]) {
		t.Error("all", got)
	}
	for _, none := range [][]api.Known{nil, {}} {
		if got := cache.Fresh(none, 0); len(got) != 0 {
			t.Error("none", got)
		}
	}
}

// P11.2: what is fresh of all lists of what may be an entry and what may not, in order as they stand.
func TestFreshOdd(t *testing.T) {
	for _, l := range lists(3, append(odd(), row("a", 5), row("a", 6))...) {
		for _, now := range []int{leastInt, -1, 0, 4, 5, 6, last - 1, last, mostInt} {
			if got := cache.Fresh(l, now); !alike(got, wantFresh(l, now)) {
				t.Fatal(l, now, got)
			}
		}
	}
}

// P11.3: the least of their Untils as ticks, and where it stands first.
func TestUntil(t *testing.T) {
	for _, x := range []struct {
		untils   []int
		at, tick int
	}{
		{nil, -1, 0},
		{[]int{}, -1, 0},
		{[]int{7}, 0, 7},
		{[]int{0}, 0, 0},
		{[]int{7, 3, 3}, 1, 3},
		{[]int{3, 7, 3}, 0, 3},
		{[]int{7, 5, 3}, 2, 3},
		{[]int{5, 5}, 0, 5},
		{[]int{-5}, 0, 0},
		{[]int{1, 0, -9}, 1, 0},
		{[]int{1, -9, 0}, 1, 0},
		{[]int{leastInt, -1, 0}, 0, 0},
		{[]int{mostInt}, 0, last},
		{[]int{last + 1, last}, 0, last},
		{[]int{mostInt, last, last + 1}, 0, last},
		{[]int{mostInt, last - 1}, 1, last - 1},
		{[]int{mostInt, leastInt}, 1, 0},
	} {
		var l []api.Known
		for n, until := range x.untils {
			l = append(l, row(string(rune('z'-n)), until))
		}
		if at, tick := cache.Until(l...); at != x.at || tick != x.tick {
			t.Error(x.untils, at, tick)
		}
	}
}

// P11.3: of what may not be, too; name, row and E have no say.
func TestUntilOdd(t *testing.T) {
	for _, l := range lists(3, odd()...) {
		wantAt, want := -1, 0
		for n, k := range l {
			if wantAt < 0 || counts(k.Until) < want {
				wantAt, want = n, counts(k.Until)
			}
		}
		if at, tick := cache.Until(l...); at != wantAt || tick != want {
			t.Fatal(l, at, tick)
		}
	}
}

// P11.4: what was put is got till its Until, and not from then on.
func TestPutThenGet(t *testing.T) {
	for _, of := range lists(3, "a", "b", "c") {
		l := named(of...)
		for _, name := range []string{"", "a", "aa", "b", "d"} {
			for _, until := range ticks() {
				for _, k := range []api.Known{row(name, until), bare(name, until)} {
					put := cache.Put(l, k)
					for _, now := range append(ticks(), counts(until)-1, until) {
						want, yes := api.Known{}, counts(now) < counts(until)
						if yes {
							want = k
						}
						if got, ok := cache.Get(put, name, now); ok != yes || got != want {
							t.Fatalf("%q, put %v, at %d: %v, %v", of, k, now, got, ok)
						}
					}
				}
			}
		}
	}
}

// P11.4: what is learnt by Entry is got so long as its configuration says: the example of the chapter.
func TestLearntThenGet(t *testing.T) {
	c := api.Conf{TTL: 3, NegTTL: 1}
	l := cache.Put(nil, cache.Entry(c, "wien", rowText, 0, 10), cache.Entry(c, "graz", rowText, noName, 10))
	for _, x := range []struct {
		now        int
		wien, graz bool
	}{
		{10, true, true}, {11, true, false}, {12, true, false}, {13, false, false}, {14, false, false},
	} {
		k, wien := cache.Get(l, "wien", x.now)
		if wien != x.wien || wien && (k.Row != rowText || k.E != 0 || k.Until != 13) {
			t.Error(x, k, wien)
		}
		k, graz := cache.Get(l, "graz", x.now)
		if graz != x.graz || graz && (k.Row != "" || k.E != noName || k.Until != 11) {
			t.Error(x, k, graz)
		}
	}
	if !cache.May(l...) {
		t.Error(l)
	}
}

// P11.1: what is learnt for no ticks, or at the last one, is never fresh.
func TestLearntForNothing(t *testing.T) {
	for _, x := range []struct{ ttl, now int }{{0, 10}, {-1, 10}, {leastInt, 0}, {5, last}, {mostInt, last}, {mostInt, mostInt}} {
		l := cache.Put(nil, cache.Entry(api.Conf{TTL: x.ttl}, "a", rowText, 0, x.now))
		if k, ok := cache.Get(l, "a", x.now); ok || k != (api.Known{}) {
			t.Error(x, k)
		}
	}
}

// P11.4: the others stay as they were, in the order in which they stood.
func TestPutOthersStay(t *testing.T) {
	for _, of := range lists(4, "a", "b", "c") {
		l := named(of...)
		for _, name := range []string{"", "a", "aa", "b", "d"} {
			put := cache.Put(l, bare(name, 3))
			for _, other := range []string{"", "a", "aa", "b", "c", "d"} {
				if other == name {
					continue
				}
				want, yes := cache.Get(l, other, 50)
				if got, ok := cache.Get(put, other, 50); ok != yes || got != want {
					t.Fatalf("%q, put %q: %q is %v, %v", of, name, other, got, ok)
				}
			}
			at := slices.Index(put, bare(name, 3))
			others := slices.Delete(slices.Clone(put), at, at+1)
			if was := slices.Index(of, name); was >= 0 {
				others = slices.Insert(others, was, l[was])
			}
			if !alike(others, l) {
				t.Fatalf("%q, put %q: %v", of, name, put)
			}
		}
	}
}

// P11.4: what may be stays so behind Put of entries that have names, and that may be themselves.
func TestMayStays(t *testing.T) {
	all := []string{"a", "aa", "b", "wien", "\xff"}
	for _, of := range lists(3, all...) {
		l := named(of...)
		if !cache.May(l...) {
			continue
		}
		for _, put := range lists(3, all...) {
			more := named(put...)
			for n := range more {
				if n%2 == 1 {
					more[n] = bare(put[n], n)
				}
			}
			if got := cache.Put(l, more...); !cache.May(got...) {
				t.Fatalf("%q, put %q: %v", of, put, got)
			}
		}
	}
}

// P11.4: Fresh at a later tick are some of those that are fresh now; and of those, the same.
func TestFreshLater(t *testing.T) {
	for _, untils := range lists(3, leastInt, 0, 1, 5, last-1, mostInt) {
		var l []api.Known
		for n, until := range untils {
			l = append(l, row(string(rune('a'+n)), until))
		}
		for _, now := range ticks() {
			fresh := cache.Fresh(l, now)
			for _, then := range ticks() {
				if then < now {
					continue
				}
				some := cache.Fresh(l, then)
				for _, k := range some {
					if !slices.Contains(fresh, k) {
						t.Fatal(untils, now, then, k)
					}
				}
				if !alike(cache.Fresh(fresh, then), some) {
					t.Fatal(untils, now, then)
				}
			}
		}
	}
}

// P11.2, P11.4: Fresh keeps what Get gets, of entries that may be, and keeps them so; ahead of Until's tick, all of them.
func TestFreshThenGet(t *testing.T) {
	l := []api.Known{row("a", 5), bare("b", 9), row("c", 6), bare("wien", last)}
	_, until := cache.Until(l...)
	if until != 5 {
		t.Error(until)
	}
	for _, now := range append(ticks(), 4, 5, 6, 8, 9) {
		fresh := cache.Fresh(l, now)
		if !cache.May(fresh...) || (len(fresh) == len(l)) != (counts(now) < until) {
			t.Error(now, fresh)
		}
		for _, k := range l {
			want, yes := cache.Get(l, k.Name, now)
			if got, ok := cache.Get(fresh, k.Name, now); ok != yes || got != want {
				t.Error(now, k, got, ok)
			}
		}
	}
}

// R4: what is handed in stays as it was, spare room behind it included.
func TestNothingChanged(t *testing.T) {
	spare := bare("spare", 77)
	for _, of := range lists(3, "a", "b", "d") {
		for _, put := range lists(2, "a", "b", "c", "e") {
			whole := append(named(of...), spare, spare, spare, spare)
			wholeMore := append(named(put...), spare, spare)
			l, more := whole[:len(of)], wholeMore[:len(put)]
			for n := range more {
				more[n].Until = 4 - n
			}
			was, wasMore := slices.Clone(whole), slices.Clone(wholeMore)
			cache.Put(l, more...)
			cache.Fresh(l, 101)
			cache.Get(l, "b", 101)
			cache.Until(l...)
			cache.May(l...)
			if !alike(whole, was) || !alike(wholeMore, wasMore) {
				t.Fatal(of, put, whole, wholeMore)
			}
		}
	}
}

// R4: what is answered is new memory, and so are two answers: what is done to one is not seen in another, or in what was handed in.
func TestMemoryOfItsOwn(t *testing.T) {
	scratch := func(l []api.Known) {
		l = l[:cap(l)]
		for n := range l {
			l[n] = bare("scratched", -1)
		}
	}
	for _, put := range lists(2, "a", "b", "c", "e") {
		l := slices.Grow(named("b", "d"), 9)
		more := slices.Grow(named(put...), 9)
		was, wasMore := slices.Clone(l), slices.Clone(more)
		for _, call := range []func() []api.Known{
			func() []api.Known { return cache.Put(l, more...) },
			func() []api.Known { return cache.Put(nil, more...) },
			func() []api.Known { return cache.Put(l) },
			func() []api.Known { return cache.Fresh(l, 0) },
			func() []api.Known { return cache.Fresh(more, 0) },
		} {
			first, second := call(), call()
			want := slices.Clone(first)
			scratch(second)
			if !alike(first, want) || !alike(l, was) || !alike(more, wasMore) {
				t.Fatal(put, first, l, more)
			}
			scratch(first)
			if !alike(call(), want) || !alike(l, was) || !alike(more, wasMore) {
				t.Fatal(put, l, more)
			}
		}
	}
}

// R3: the same again, whatever was asked between.
func TestAgain(t *testing.T) {
	l := named("b", "a", "d")
	k, ok := cache.Get(l, "a", 5)
	put, fresh := cache.Put(l, bare("c", 9)), cache.Fresh(l, 101)
	cache.Put(put, row("a", 0))
	cache.Fresh(put, mostInt)
	again, yes := cache.Get(l, "a", 5)
	if again != k || yes != ok || !alike(cache.Put(l, bare("c", 9)), put) || !alike(cache.Fresh(l, 101), fresh) {
		t.Error(again, yes)
	}
}

// R1: long lists end.
func TestLong(t *testing.T) {
	var l []api.Known
	for n := range 2000 {
		l = append(l, row(fmt.Sprintf("host%05d", n), n))
	}
	back := slices.Clone(l)
	slices.Reverse(back)
	put := cache.Put(nil, back...)
	if !alike(put, l) || !cache.May(put...) || cache.May(back...) {
		t.Error("put")
	}
	if got := cache.Fresh(put, 999); !alike(got, l[1000:]) {
		t.Error("fresh")
	}
	if at, tick := cache.Until(back...); at != 1999 || tick != 0 {
		t.Error(at, tick)
	}
	if k, ok := cache.Get(put, "host01999", 1998); !ok || k != l[1999] {
		t.Error(k, ok)
	}
}
