package order_test

import (
	"cmp"
	"slices"
	"strconv"
	"strings"
	"testing"

	"switchboard/api"
	"switchboard/order"
)

const (
	mostInt  = int(^uint(0) >> 1)
	leastInt = -mostInt - 1
)

// to answers the n-th of many addresses of a family.
func to(fam int8, n int) api.Addr {
	return api.Addr{Fam: fam, G: [8]uint16{uint16(n >> 16), uint16(n)}, Port: 9}
}

// read answers the addresses that are told in s: a letter each, and its family's number behind it.
func read(s string) []api.Addr {
	var l []api.Addr
	for _, text := range strings.Fields(s) {
		fam, err := strconv.ParseInt(text[1:], 10, 8)
		if err != nil {
			panic(err)
		}
		l = append(l, to(int8(fam), int(text[0])))
	}
	return l
}

// many answers the addresses of a family from the n-th one on, ahead of the m-th one.
func many(fam int8, n, m int) []api.Addr {
	var l []api.Addr
	for ; n < m; n++ {
		l = append(l, to(fam, n))
	}
	return l
}

// mixed answers one of each of l, and so on, as long as there are any.
func mixed(l ...[]api.Addr) []api.Addr {
	var all []api.Addr
	for n := 0; ; n++ {
		was := len(all)
		for _, row := range l {
			if n < len(row) {
				all = append(all, row[n])
			}
		}
		if len(all) == was {
			return all
		}
	}
}

// odd are addresses that may not be, some of them unlike in one field, or one group, only.
func odd() []api.Addr {
	return []api.Addr{
		{},
		{Port: 1},
		{Port: -1},
		{Fam: -128, Port: mostInt},
		{Fam: -1, Port: mostInt},
		{Fam: 4, G: [8]uint16{1, 2, 0, 0, 0, 0, 0, 3}, Port: 80},
		{Fam: 4, G: [8]uint16{1, 2, 0, 0, 0, 0, 0, 4}, Port: 80},
		{Fam: 5, G: [8]uint16{1, 2, 0, 0, 0, 0, 0, 3}, Port: 80},
		{Fam: 6, Port: leastInt},
		{Fam: 127, G: [8]uint16{65535, 65535, 65535, 65535, 65535, 65535, 65535, 65535}, Port: -1},
	}
}

// lists are all lists of up to length of the things, the short ones first.
func lists[T any](length int, things ...T) [][]T {
	all := [][]T{nil}
	from := 0
	for range length {
		to := len(all)
		for _, l := range all[from:to] {
			for _, v := range things {
				all = append(all, append(slices.Clone(l), v))
			}
		}
		from = to
	}
	return all
}

// some are all choices of the things, each in their order.
func some[T any](things ...T) [][]T {
	all := [][]T{nil}
	for _, v := range things {
		for _, l := range slices.Clone(all) {
			all = append(all, append(slices.Clone(l), v))
		}
	}
	return all
}

// orders are all the orders that l may stand in.
func orders[T any](l []T) [][]T {
	if len(l) == 0 {
		return [][]T{nil}
	}
	var all [][]T
	for n, v := range l {
		for _, behind := range orders(slices.Delete(slices.Clone(l), n, n+1)) {
			all = append(all, append([]T{v}, behind...))
		}
	}
	return all
}

// alike says, one by one, whether l and m are the same in the same order.
func alike(l, m []api.Addr) bool {
	if len(l) != len(m) {
		return false
	}
	for i := range l {
		if l[i] != m[i] {
			return false
		}
	}
	return true
}

// without answers those of l that are not among others, and those that are.
func without(l, others []api.Addr) (not, are []api.Addr) {
	for _, a := range l {
		if slices.Contains(others, a) {
			are = append(are, a)
		} else {
			not = append(not, a)
		}
	}
	return not, are
}

// wantOnce, wantTurns and wantList say what the chapter says, by other means.
func wantOnce(l []api.Addr) []api.Addr {
	var once []api.Addr
	for n, a := range l {
		if !slices.Contains(l[:n], a) {
			once = append(once, a)
		}
	}
	return once
}

// wantTurns puts those first that have few of their family ahead, and of as many those whose family's first one stands ahead.
func wantTurns(l []api.Addr) []api.Addr {
	type placed struct {
		a             api.Addr
		ahead, family int
	}
	var all []placed
	for n, a := range l {
		of := func(b api.Addr) bool { return b.Fam == a.Fam }
		one := placed{a: a, family: slices.IndexFunc(l, of)}
		for _, b := range l[:n] {
			if of(b) {
				one.ahead++
			}
		}
		all = append(all, one)
	}
	slices.SortStableFunc(all, func(x, y placed) int {
		return cmp.Or(cmp.Compare(x.ahead, y.ahead), cmp.Compare(x.family, y.family))
	})
	var turns []api.Addr
	for _, one := range all {
		turns = append(turns, one.a)
	}
	return turns
}

func wantList(l, bad []api.Addr) []api.Addr {
	well, badly := without(wantOnce(l), bad)
	return slices.Concat(wantTurns(well), wantTurns(badly))
}

// P13.1: Once of none, of one, of the same one side by side and apart, twice and more often: the first one counts.
func TestOnce(t *testing.T) {
	for _, x := range []struct{ l, want string }{
		{"", ""},
		{"a4", "a4"},
		{"a4 a4", "a4"},
		{"a4 a4 a4 a4", "a4"},
		{"a4 b4", "a4 b4"},
		{"b4 a4", "b4 a4"},
		{"a4 b4 a4", "a4 b4"},
		{"b4 a4 a4", "b4 a4"},
		{"a4 a4 b4", "a4 b4"},
		{"a4 b4 a4 b4 a4", "a4 b4"},
		{"c6 a4 b4 b4 c6 d6 a4", "c6 a4 b4 d6"},
		{"a4 a6 a4 a6", "a4 a6"},
		{"d6 c6 b4 a4", "d6 c6 b4 a4"},
		{"a4 b4 c6 d6 e4", "a4 b4 c6 d6 e4"},
	} {
		if got := order.Once(read(x.l)...); !alike(got, read(x.want)) {
			t.Errorf("%q: %v", x.l, got)
		}
	}
	if got := order.Once([]api.Addr{}...); len(got) != 0 {
		t.Error(got)
	}
}

// P13.1: Turns of none, of one family, of two, the one much longer than the other, beginning with either.
func TestTurns(t *testing.T) {
	for _, x := range []struct{ l, want string }{
		{"", ""},
		{"a4", "a4"},
		{"a6", "a6"},
		{"a4 b4", "a4 b4"},
		{"b4 a4 c4", "b4 a4 c4"},
		{"a4 b6", "a4 b6"},
		{"b6 a4", "b6 a4"},
		{"a4 b4 c6", "a4 c6 b4"},
		{"a6 b6 c4", "a6 c4 b6"},
		{"a4 b6 c6", "a4 b6 c6"},
		{"a4 b6 c6 d4", "a4 b6 d4 c6"},
		{"a4 b6 c4 d6", "a4 b6 c4 d6"},
		{"a4 b4 c6 d6 e4", "a4 c6 b4 d6 e4"},
		{"a4 b4 c4 d4 e4 f6", "a4 f6 b4 c4 d4 e4"},
		{"a6 b6 c6 d6 e6 f4", "a6 f4 b6 c6 d6 e6"},
		{"f6 a4 b4 c4 d4 e4", "f6 a4 b4 c4 d4 e4"},
		{"a4 b4 f6 c4 d4 e4", "a4 f6 b4 c4 d4 e4"},
		{"a6 b4 c4 d4 e4 f6", "a6 b4 f6 c4 d4 e4"},
	} {
		if got := order.Turns(read(x.l)...); !alike(got, read(x.want)) {
			t.Errorf("%q: %v", x.l, got)
		}
	}
	if got := order.Turns([]api.Addr{}...); len(got) != 0 {
		t.Error(got)
	}
}

// P13.1: of three families and more, in turn, by where their first ones stand, not by their numbers; one that is at its end is passed over.
func TestTurnsOfMore(t *testing.T) {
	for _, x := range []struct{ l, want string }{
		{"a4 b5 c6", "a4 b5 c6"},
		{"a6 b4 c5", "a6 b4 c5"},
		{"a6 b5 c4", "a6 b5 c4"},
		{"a4 b4 c5 d5 e6 f6", "a4 c5 e6 b4 d5 f6"},
		{"a6 b6 c4 d4 e5 f5", "a6 c4 e5 b6 d4 f5"},
		{"a5 b5 c6 d6 e4 f4", "a5 c6 e4 b5 d6 f4"},
		{"a4 b4 c4 d5 e6", "a4 d5 e6 b4 c4"},
		{"a4 b4 c4 d5 e6 f6", "a4 d5 e6 b4 f6 c4"},
		{"a4 b5 c5 d5 e6 f6", "a4 b5 e6 c5 f6 d5"},
		{"a4 b5 c6 d6 e5 f4", "a4 b5 c6 f4 e5 d6"},
		{"a4 b5 c6 d6 e6 f5", "a4 b5 c6 f5 d6 e6"},
		{"a0 b-1 c7 d0 e-128 f127 g-1", "a0 b-1 c7 e-128 f127 d0 g-1"},
	} {
		if got := order.Turns(read(x.l)...); !alike(got, read(x.want)) {
			t.Errorf("%q: %v", x.l, got)
		}
	}
}

// P13.1: what stands twice, or more often, stays so, each one in its family's turn.
func TestTurnsOfTwice(t *testing.T) {
	for _, x := range []struct{ l, want string }{
		{"a4 a4", "a4 a4"},
		{"a4 a4 b6", "a4 b6 a4"},
		{"a4 a4 a4 b6 b6", "a4 b6 a4 b6 a4"},
		{"b6 a4 a4 a4 b6", "b6 a4 b6 a4 a4"},
		{"a4 b4 a4 c6 c6", "a4 c6 b4 c6 a4"},
		{"a4 a6 a4 a6", "a4 a6 a4 a6"},
	} {
		if got := order.Turns(read(x.l)...); !alike(got, read(x.want)) {
			t.Errorf("%q: %v", x.l, got)
		}
	}
}

// P13.1: Place of one at the front, in the middle, at the end, twice, nowhere, in none.
func TestPlace(t *testing.T) {
	for _, x := range []struct {
		l, a string
		want int
	}{
		{"", "a4", -1},
		{"a4", "a4", 0},
		{"a4", "b4", -1},
		{"a4", "a6", -1},
		{"a4 b4 c6", "a4", 0},
		{"a4 b4 c6", "b4", 1},
		{"a4 b4 c6", "c6", 2},
		{"a4 b4 c6", "c4", -1},
		{"a4 b4 b4", "b4", 1},
		{"b4 a4 c6 a4 a4", "a4", 1},
		{"a4 b4 a4", "a4", 0},
	} {
		if got := order.Place(read(x.l), read(x.a)[0]); got != x.want {
			t.Errorf("%q, %q: %d", x.l, x.a, got)
		}
	}
	if got := order.Place([]api.Addr{}, api.Addr{}); got != -1 {
		t.Error(got)
	}
	if got := order.Place(read("a4"), api.Addr{}); got != -1 {
		t.Error(got)
	}
}

// P13.2: the chapter's examples, and the list with none bad, all, one at any place, one that stands nowhere, one that is named twice, and with addresses that stand twice.
func TestList(t *testing.T) {
	const l = "a4 b4 c6 d6 e4"
	for _, x := range []struct{ l, bad, want string }{
		{l, "", "a4 c6 b4 d6 e4"},
		{l, "a4", "b4 c6 e4 d6 a4"},

		{"", "", ""},
		{"", "a4 b6", ""},
		{"a4", "", "a4"},
		{"a4", "a4", "a4"},
		{l, "c6", "a4 d6 b4 e4 c6"},
		{l, "b4", "a4 c6 e4 d6 b4"},
		{l, "e4", "a4 c6 b4 d6 e4"},
		{l, "d6", "a4 c6 b4 e4 d6"},
		{l, "a4 b4 c6 d6 e4", "a4 c6 b4 d6 e4"},
		{l, "e4 d6 c6 b4 a4", "a4 c6 b4 d6 e4"},
		{l, "d6 e4 c6", "a4 b4 c6 e4 d6"},
		{l, "b4 e4 a4", "c6 d6 a4 b4 e4"},
		{l, "d6 a4 c6 b4", "e4 a4 c6 b4 d6"},
		{l, "c6 d6", "a4 b4 e4 c6 d6"},
		{l, "z4", "a4 c6 b4 d6 e4"},
		{l, "a6", "a4 c6 b4 d6 e4"},
		{l, "z6 a4 y4", "b4 c6 e4 d6 a4"},
		{l, "a4 a4", "b4 c6 e4 d6 a4"},
		{l, "a4 c6 a4 c6 a4", "b4 d6 e4 a4 c6"},
		{"a4 a4", "", "a4"},
		{"a4 a4", "a4", "a4"},
		{"a4 b6 a4 c4 b6", "", "a4 b6 c4"},
		{"a4 b6 a4 c4 b6", "a4", "b6 c4 a4"},
		{"a4 a4 b4 b4 c6", "b4", "a4 c6 b4"},
		{"a4 b4 c4 d6 a4", "d6", "a4 b4 c4 d6"},
		{"a4 b5 c6 d4 e5 f6", "", "a4 b5 c6 d4 e5 f6"},
		{"a4 b5 c6 d4 e5 f6", "a4", "b5 c6 d4 e5 f6 a4"},
		{"a4 b4 c5 d6 e5 f6", "a4 c5 d6", "b4 e5 f6 a4 c5 d6"},
		{"a4 b4 c5 d6 e5 f6", "a4 b4 e5", "c5 d6 f6 a4 e5 b4"},
	} {
		if got := order.List(read(x.l), read(x.bad)...); !alike(got, read(x.want)) {
			t.Errorf("%q, bad %q: %v", x.l, x.bad, got)
		}
	}
	if got := order.List([]api.Addr{}, []api.Addr{}...); len(got) != 0 {
		t.Error(got)
	}
}

// P13.2: First of as many as there are, of more, of fewer, of none, of numbers below 0.
func TestFirst(t *testing.T) {
	for _, x := range []struct {
		n       int
		l, want string
	}{
		{0, "a4 b4 a4 c6", ""},
		{1, "a4 b4 a4 c6", "a4"},
		{2, "a4 b4 a4 c6", "a4 b4"},
		{3, "a4 b4 a4 c6", "a4 b4 a4"},
		{4, "a4 b4 a4 c6", "a4 b4 a4 c6"},
		{5, "a4 b4 a4 c6", "a4 b4 a4 c6"},
		{mostInt - 1, "a4 b4 a4 c6", "a4 b4 a4 c6"},
		{mostInt, "a4 b4 a4 c6", "a4 b4 a4 c6"},
		{-1, "a4 b4 a4 c6", ""},
		{-3, "a4 b4 a4 c6", ""},
		{leastInt + 1, "a4 b4 a4 c6", ""},
		{leastInt, "a4 b4 a4 c6", ""},
		{leastInt, "", ""},
		{-1, "", ""},
		{0, "", ""},
		{1, "", ""},
		{mostInt, "", ""},
		{1, "a4", "a4"},
		{2, "a4", "a4"},
	} {
		if got := order.First(x.n, read(x.l)...); !alike(got, read(x.want)) {
			t.Errorf("%d, %q: %v", x.n, x.l, got)
		}
	}
}

// P13.2: First counts from how many are handed in on, whatever room there is behind them.
func TestFirstLeavesRoomAlone(t *testing.T) {
	whole := read("a4 b4 c6 d6")
	if got := order.First(4, whole[:2]...); !alike(got, whole[:2]) {
		t.Error(got)
	}
	if got := order.First(3, whole[1:3]...); !alike(got, whole[1:3]) {
		t.Error(got)
	}
}

// P13.1, P13.2: all small lists, of two families and of three, with what stands twice, held against the words.
func TestAllSmall(t *testing.T) {
	for _, of := range []string{"a4 b4 c6 d6", "a4 b5 c6"} {
		for _, l := range lists(6, read(of)...) {
			if got, want := order.Once(l...), wantOnce(l); !alike(got, want) {
				t.Fatalf("once of %v: %v, want %v", l, got, want)
			}
			if got, want := order.Turns(l...), wantTurns(l); !alike(got, want) {
				t.Fatalf("turns of %v: %v, want %v", l, got, want)
			}
			if len(l) > 5 {
				continue
			}
			for _, bad := range some(read(of)...) {
				if got, want := order.List(l, bad...), wantList(l, bad); !alike(got, want) {
					t.Fatalf("list of %v, bad %v: %v, want %v", l, bad, got, want)
				}
			}
			for n := -2; n < 8; n++ {
				if got, want := order.First(n, l...), l[:min(max(n, 0), len(l))]; !alike(got, want) {
					t.Fatalf("first %d of %v: %v, want %v", n, l, got, want)
				}
			}
		}
	}
}

// P13.1, P13.2: addresses that may not be, of families that are none, go by what Fam says, and by all of their fields.
func TestOdd(t *testing.T) {
	all := odd()
	if got := order.Once(append(odd(), all...)...); !alike(got, all) {
		t.Error(got)
	}
	want := []api.Addr{all[0], all[3], all[4], all[5], all[7], all[8], all[9], all[1], all[6], all[2]}
	if got := order.Turns(all...); !alike(got, want) {
		t.Error(got)
	}
	if got := order.List(append(odd(), all...)); !alike(got, want) {
		t.Error(got)
	}
	for n, a := range all {
		if got := order.Place(all, a); got != n {
			t.Error(n, got)
		}
		others := slices.Delete(odd(), n, n+1)
		if got := order.Place(others, a); got != -1 {
			t.Error(n, got)
		}
		if got, want := order.List(all, a), append(wantTurns(others), a); !alike(got, want) {
			t.Errorf("%d bad: %v, want %v", n, got, want)
		}
		if got := order.List(others, a); !alike(got, wantTurns(others)) {
			t.Errorf("%d is not there: %v", n, got)
		}
	}
}

// P13.1: all the families that there may be, each once and twice, in either order.
func TestAllFamilies(t *testing.T) {
	var up, down []api.Addr
	for fam := -128; fam <= 127; fam++ {
		up = append(up, to(int8(fam), 1))
		down = append(down, to(int8(-1-fam), 2))
	}
	if got := order.Turns(up...); !alike(got, up) {
		t.Error("up")
	}
	if got := order.Turns(down...); !alike(got, down) {
		t.Error("down")
	}
	behind := slices.Clone(down)
	slices.Reverse(behind)
	if got := order.Turns(append(slices.Clone(up), down...)...); !alike(got, slices.Concat(up, behind)) {
		t.Error("up and down")
	}
}

// fits says of a list of l, those in bad being bad, whether P13.3's first sentences hold.
func fits(l, bad []api.Addr) bool {
	got := order.List(l, bad...)
	return each(got, l) && kept(got, l, bad) && apart(got, bad)
}

// each says whether got has each of l once, and no others.
func each(got, l []api.Addr) bool {
	for n, a := range got {
		if slices.Contains(got[:n], a) || !slices.Contains(l, a) {
			return false
		}
	}
	for _, a := range l {
		if !slices.Contains(got, a) {
			return false
		}
	}
	return true
}

// kept says whether got has those that are not bad ahead, and whether of them, and of the others, a family's stand in l's order.
func kept(got, l, bad []api.Addr) bool {
	well, badly := without(got, bad)
	if !alike(got, slices.Concat(well, badly)) {
		return false
	}
	for _, part := range [][]api.Addr{well, badly} {
		for n, a := range part {
			for _, b := range part[:n] {
				if a.Fam == b.Fam && slices.Index(l, a) < slices.Index(l, b) {
					return false
				}
			}
		}
	}
	return true
}

// apart says whether no two of a family stand side by side ahead of the place from which on only one family is left of those of got that are not bad.
func apart(got, bad []api.Addr) bool {
	well, _ := without(got, bad)
	from := len(well)
	for from > 0 && well[from-1].Fam == well[len(well)-1].Fam {
		from--
	}
	for n := 1; n < from; n++ {
		if well[n].Fam == well[n-1].Fam {
			return false
		}
	}
	return true
}

// sooner says whether with one bad address more no other one that is not bad stands later.
func sooner(l, bad []api.Addr, more api.Addr) bool {
	was, is := order.List(l, bad...), order.List(l, append(slices.Clone(bad), more)...)
	for n, a := range was {
		if a != more && !slices.Contains(bad, a) && slices.Index(is, a) > n {
			return false
		}
	}
	return true
}

// P13.3: of all lists of a few addresses, in whatever order, and whichever are bad.
func TestWhatFollows(t *testing.T) {
	for _, text := range []string{"a4 b4 c6 d6", "a4 b4 c4 d6", "a4 b4 c5 d6"} {
		all := read(text)
		for _, l := range lists(4, all...) {
			follows(t, l, all)
		}
	}
	for _, text := range []string{"a4 b4 c6 d6 e4", "a4 b4 c5 d5 e6", "a4 b4 c5 d6 e7", "a4 b4 c4 d4 e6"} {
		all := read(text)
		for _, l := range orders(all) {
			follows(t, l, all)
		}
	}
}

// follows asks P13.3 of a list, whichever of all are bad, and whichever is bad, too.
func follows(t *testing.T, l, all []api.Addr) {
	t.Helper()
	for _, bad := range some(all...) {
		if !fits(l, bad) {
			t.Fatalf("%v, bad %v: %v", l, bad, order.List(l, bad...))
		}
		for _, more := range all {
			if !sooner(l, bad, more) {
				t.Fatalf("%v, bad %v and %v", l, bad, more)
			}
		}
	}
}

// P13.3: of longer lists, of a row's length and more, the families one behind the other, mixed, and with what stands twice.
func TestWhatFollowsOfLonger(t *testing.T) {
	four, six, five := many(4, 0, 11), many(6, 0, 7), many(5, 0, 3)
	for i, l := range [][]api.Addr{
		slices.Concat(four, six),
		slices.Concat(six, four),
		slices.Concat(six[:1], four, six[1:]),
		slices.Concat(four[:9], six),
		mixed(four, six),
		slices.Concat(four, six, five),
		slices.Concat(five, six, four),
		slices.Concat(four[:2], five, six, four[2:]),
		mixed(six, four, five),
		slices.Concat(mixed(four, six), five, four, six),
	} {
		var bad []api.Addr
		for n := range l {
			more := l[n*7%len(l)]
			if !fits(l, bad) || !sooner(l, bad, more) || !sooner(l, bad, to(9, 9)) {
				t.Fatalf("%d: bad %v, and %v", i, bad, more)
			}
			bad = append(bad, more)
		}
		if !fits(l, bad) {
			t.Fatalf("%d: bad %v", i, bad)
		}
	}
}

// P13.3: a list's list is the same list again, and who is bad may be told in whatever order.
func TestListOfList(t *testing.T) {
	all := read("a4 b4 c6 d6")
	for _, l := range lists(4, all...) {
		for _, bad := range lists(3, all...) {
			want := order.List(l, bad...)
			if got := order.List(want, bad...); !alike(got, want) {
				t.Fatalf("%v, bad %v: %v, again %v", l, bad, want, got)
			}
			slices.Reverse(bad)
			if got := order.List(l, bad...); !alike(got, want) {
				t.Fatalf("%v, bad %v: %v, want %v", l, bad, got, want)
			}
		}
	}
}

// R4: what is handed in stays as it was, spare room behind it included.
func TestNothingChanged(t *testing.T) {
	spare := read("x4 y6 z5")
	all := read("a4 b4 c6")
	for _, of := range lists(4, all...) {
		for _, ill := range lists(2, all...) {
			whole, wholeBad := slices.Concat(of, spare), slices.Concat(ill, spare)
			l, bad := whole[:len(of)], wholeBad[:len(ill)]
			was, wasBad := slices.Clone(whole), slices.Clone(wholeBad)
			order.Once(l...)
			order.Turns(l...)
			order.List(l, bad...)
			order.Place(l, spare[0])
			for n := -1; n < len(of)+3; n++ {
				order.First(n, l...)
			}
			if !alike(whole, was) || !alike(wholeBad, wasBad) {
				t.Fatal(of, ill, whole, wholeBad)
			}
		}
	}
}

// R4: what is answered is new memory, and so are two answers: what is done to one is not seen in another, or in what was handed in.
func TestMemoryOfItsOwn(t *testing.T) {
	scratch := func(l []api.Addr) {
		l = l[:cap(l)]
		for n := range l {
			l[n] = api.Addr{Port: -1}
		}
	}
	bad := slices.Grow(read("b4 c6"), 9)
	for _, text := range []string{"", "a4", "a4 b4", "a4 b4 c6 d6 e4", "b4 c6", "a4 a4 b6 a4"} {
		l := slices.Grow(read(text), 9)
		was, wasBad := slices.Clone(l), slices.Clone(bad)
		for i, call := range []func() []api.Addr{
			func() []api.Addr { return order.Once(l...) },
			func() []api.Addr { return order.Turns(l...) },
			func() []api.Addr { return order.List(l) },
			func() []api.Addr { return order.List(l, bad...) },
			func() []api.Addr { return order.List(l, l...) },
			func() []api.Addr { return order.First(-1, l...) },
			func() []api.Addr { return order.First(0, l...) },
			func() []api.Addr { return order.First(1, l...) },
			func() []api.Addr { return order.First(len(l), l...) },
			func() []api.Addr { return order.First(len(l)+1, l...) },
		} {
			first, second := call(), call()
			want := slices.Clone(first)
			scratch(second)
			if !alike(first, want) || !alike(l, was) || !alike(bad, wasBad) {
				t.Fatal(i, text, first, l)
			}
			scratch(first)
			if !alike(call(), want) || !alike(l, was) || !alike(bad, wasBad) {
				t.Fatal(i, text, l)
			}
		}
	}
}

// R3: the same again, whatever was asked between.
func TestAgain(t *testing.T) {
	l, bad := read("a4 b5 c6 d6 e5 a4 f7 g4"), read("c6 a4")
	once, turns, list, first := order.Once(l...), order.Turns(l...), order.List(l, bad...), order.First(3, l...)
	order.Once(turns...)
	order.Turns(list...)
	order.List(turns, once...)
	order.First(1, list...)
	for range 50 {
		if !alike(order.Once(l...), once) || !alike(order.Turns(l...), turns) || !alike(order.List(l, bad...), list) || !alike(order.First(3, l...), first) {
			t.Fatal("not the same again")
		}
	}
}

// R1: long lists end, those of many families beside a long one, too.
func TestLong(t *testing.T) {
	const length = 100000
	four, six := many(4, 0, length), many(6, 0, length)
	all := slices.Concat(four, six)
	if got := order.Once(append(slices.Clone(all), all...)...); !alike(got, all) {
		t.Error("once")
	}
	if got := order.Turns(all...); !alike(got, mixed(four, six)) {
		t.Error("turns")
	}
	if got := order.List(append(slices.Clone(all), all...), four...); !alike(got, slices.Concat(six, four)) {
		t.Error("list")
	}
	if got := order.List(all, all...); !alike(got, mixed(four, six)) {
		t.Error("list, all bad")
	}
	if got := order.Place(all, six[length-1]); got != 2*length-1 {
		t.Error(got)
	}
	if got := order.First(length, all...); !alike(got, four) {
		t.Error("first")
	}
	var families []api.Addr
	for fam := -128; fam < 0; fam++ {
		families = append(families, to(int8(fam), 1))
	}
	if got, want := order.Turns(slices.Concat(four, families)...), slices.Concat(four[:1], families, four[1:]); !alike(got, want) {
		t.Error("turns of many families")
	}
}
