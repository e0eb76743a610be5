package heat_test

import (
	"maps"
	"slices"
	"strconv"
	"strings"
	"testing"

	"switchboard/addr"
	"switchboard/api"
	"switchboard/heat"
	"switchboard/pace"
)

const (
	mostInt  = int(^uint(0) >> 1)
	leastInt = -mostInt - 1

	// The greatest tick, written out, so that the tests do not hang on what they test against.
	last = 1073741824
)

// Three addresses of two families.
var (
	a = api.Addr{Fam: 4, G: [8]uint16{0x0102, 0x0304}, Port: 80}
	b = api.Addr{Fam: 6, G: [8]uint16{7: 1}, Port: 80}
	c = api.Addr{Fam: 4, G: [8]uint16{0x0102, 0x0304}, Port: 81}
)

// to answers the n-th of many addresses.
func to(n int) api.Addr {
	return api.Addr{Fam: 4, G: [8]uint16{uint16(n >> 16), uint16(n)}, Port: 9}
}

// many answers the first n of them.
func many(n int) []api.Addr {
	var all []api.Addr
	for i := range n {
		all = append(all, to(i))
	}
	return all
}

// upTo answers the numbers from 0 on, n of them.
func upTo(n int) []int {
	var all []int
	for i := range n {
		all = append(all, i)
	}
	return all
}

// numbers are those that matter wherever a number is handed in, rising.
func numbers() []int {
	return []int{leastInt, leastInt + 1, -last, -16, -1, 0, 1, 2, 3, 15, 16, 17, last - 3, last - 1, last, last + 1, mostInt - 1, mostInt}
}

// count answers the tick that n counts as.
func count(n int) int {
	switch {
	case n < 0:
		return 0
	case n > last:
		return last
	}
	return n
}

// later answers the tick that is a stagger behind since.
func later(since, stagger int) int {
	return count(count(since) + count(stagger))
}

// lists are all lists of up to length of the things, the short ones first.
func lists[T any](length int, things ...T) [][]T {
	all := [][]T{nil}
	from := 0
	for range length {
		to := len(all)
		for _, l := range all[from:to] {
			for _, v := range things {
				all = append(all, append(slices.Clone(l), v))
			}
		}
		from = to
	}
	return all
}

// orders are all the orders that l may stand in.
func orders[T any](l []T) [][]T {
	if len(l) == 0 {
		return [][]T{nil}
	}
	var all [][]T
	for n, v := range l {
		for _, rest := range orders(slices.Delete(slices.Clone(l), n, n+1)) {
			all = append(all, append([]T{v}, rest...))
		}
	}
	return all
}

// own answers h in memory of its own, with spare room behind its lists that is not as what stands there.
func own(h api.Heat) api.Heat {
	h.List = append(slices.Clone(h.List), to(901), to(902), to(903))[:len(h.List)]
	h.Bad = append(slices.Clone(h.Bad), 901, 902, 903)[:len(h.Bad)]
	return h
}

// alike says, field by field, whether g and h are the same.
func alike(g, h api.Heat) bool {
	if len(g.List) != len(h.List) || len(g.Bad) != len(h.Bad) {
		return false
	}
	for i := range g.List {
		if g.List[i] != h.List[i] {
			return false
		}
	}
	for i := range g.Bad {
		if g.Bad[i] != h.Bad[i] {
			return false
		}
	}
	return g.Next == h.Next && g.Out == h.Out && g.Since == h.Since && g.Due == h.Due
}

// walk answers h behind what is told in s: s and a tick for a start, t for being told that it is time, l and numbers with commas between for what is lost.
func walk(h api.Heat, s string) api.Heat {
	for _, text := range strings.Fields(s) {
		switch text[0] {
		case 's':
			h, _, _, _ = heat.Start(h, told(text[1:])[0])
		case 't':
			h = heat.Time(h)
		case 'l':
			h = heat.Lost(h, told(text[1:])...)
		default:
			panic(text)
		}
	}
	return h
}

// told answers the numbers that are told in s.
func told(s string) []int {
	var l []int
	for _, text := range strings.Split(s, ",") {
		n, err := strconv.Atoi(text)
		if err != nil {
			panic(err)
		}
		l = append(l, n)
	}
	return l
}

// started says whether the n-th one has; left says whether one has not.
func started(h api.Heat, n int) bool {
	return 0 <= n && n < h.Next
}

func left(h api.Heat) bool {
	return 0 <= h.Next && h.Next < len(h.List)
}

// wantMay, wantReady, wantWhen, wantStart, wantTime, wantLost, wantOver and wantFailed say what the chapter says, by plain means.
func wantMay(h api.Heat) bool {
	if h.Next < 0 || h.Next > len(h.List) {
		return false
	}
	good := 0
	for n := range h.Next {
		if !slices.Contains(h.Bad, n) {
			good++
		}
	}
	// Each is one of those that have started, and none stands twice, just where there are as many as have failed of them.
	return len(h.Bad) == h.Next-good && h.Out == good
}

func wantReady(h api.Heat, stagger, now int) bool {
	if !left(h) {
		return false
	}
	if h.Due {
		return true
	}
	return h.Next > 0 && count(now) >= later(h.Since, stagger)
}

func wantWhen(h api.Heat, stagger int) (int, bool) {
	if !h.Due && h.Next > 0 && left(h) {
		return later(h.Since, stagger), true
	}
	return 0, false
}

func wantStart(h api.Heat, now int) (api.Heat, int, api.Addr, api.Errno) {
	if !left(h) {
		return h, 0, api.Addr{}, api.ErrArg
	}
	next := api.Heat{List: h.List, Next: h.Next + 1, Out: h.Out + 1, Bad: h.Bad, Since: count(now)}
	return next, h.Next, h.List[h.Next], api.OK
}

func wantTime(h api.Heat) api.Heat {
	if left(h) {
		h.Due = true
	}
	return h
}

func wantLost(h api.Heat, l ...int) api.Heat {
	for _, n := range l {
		if !started(h, n) || slices.Contains(h.Bad, n) {
			continue
		}
		h.Bad = append(slices.Clone(h.Bad), n)
		h.Out--
		if n+1 == h.Next && left(h) {
			h.Due = true
		}
	}
	return h
}

func wantOver(h api.Heat) bool {
	return !(h.Next < len(h.List)) && !(h.Out > 0)
}

func wantFailed(h api.Heat) []api.Addr {
	var l []api.Addr
	for _, n := range h.Bad {
		for place, one := range h.List {
			if place == n {
				l = append(l, one)
			}
		}
	}
	return l
}

// asked asks everything of h, and holds it against the words.
func asked(t *testing.T, h api.Heat, stagger, now int, lost ...int) {
	t.Helper()
	if got := heat.May(h); got != wantMay(h) {
		t.Fatalf("May(%+v): %v", h, got)
	}
	if got := heat.Ready(h, stagger, now); got != wantReady(h, stagger, now) {
		t.Fatalf("Ready(%+v, %d, %d): %v", h, stagger, now, got)
	}
	at, ok := heat.When(h, stagger)
	if wantAt, wantOK := wantWhen(h, stagger); at != wantAt || ok != wantOK {
		t.Fatalf("When(%+v, %d): %d %v", h, stagger, at, ok)
	}
	o, n, one, e := heat.Start(h, now)
	if wantO, wantN, wantOne, wantE := wantStart(h, now); !alike(o, wantO) || n != wantN || one != wantOne || e != wantE {
		t.Fatalf("Start(%+v, %d): %+v %d %v %d", h, now, o, n, one, e)
	}
	if got := heat.Time(h); !alike(got, wantTime(h)) {
		t.Fatalf("Time(%+v): %+v", h, got)
	}
	if got := heat.Lost(h, lost...); !alike(got, wantLost(h, lost...)) {
		t.Fatalf("Lost(%+v, %d): %+v", h, lost, got)
	}
	if got := heat.Over(h); got != wantOver(h) {
		t.Fatalf("Over(%+v): %v", h, got)
	}
	if got := heat.Failed(h); !slices.Equal(got, wantFailed(h)) {
		t.Fatalf("Failed(%+v): %v", h, got)
	}
	if !heat.Same(h, own(h)) {
		t.Fatalf("Same(%+v)", h)
	}
}

// P15.1: Begin of none, of one, of two, of one twice, of addresses that may not be: due, and all else 0.
func TestBegin(t *testing.T) {
	odd := []api.Addr{{}, {Fam: 9, Port: -1}, {Fam: -128, G: [8]uint16{7: 65535}, Port: mostInt}}
	for i, l := range [][]api.Addr{nil, {}, {a}, {a, b}, {b, a}, {a, a}, {a, b, a, c}, odd, many(40)} {
		got := heat.Begin(l...)
		if !slices.Equal(got.List, l) || !got.Due || got.Next != 0 || got.Out != 0 || len(got.Bad) != 0 || got.Since != 0 {
			t.Error(i, got)
		}
		if !heat.May(got) {
			t.Error(i, "may not be")
		}
		if left := len(l) > 0; heat.Ready(got, 3, 0) != left || heat.Over(got) == left {
			t.Error(i, "ready, over")
		}
	}
}

// P15.1: May of heats that may be, and of such as may not: Next, Out and Bad one off each end, Bad with one twice, one that has not started, one that is none.
func TestMay(t *testing.T) {
	for i, x := range []struct {
		many, next, out int
		bad             []int
		want            bool
	}{
		{0, 0, 0, nil, true},
		{0, 0, 0, []int{}, true},
		{0, 1, 1, nil, false},
		{0, 1, 0, []int{0}, false},
		{0, 0, -1, []int{0}, false},
		{0, -1, -1, nil, false},
		{0, 0, 1, nil, false},
		{1, 0, 0, nil, true},
		{1, 1, 1, nil, true},
		{1, 1, 0, []int{0}, true},
		{1, 1, 0, nil, false},
		{1, 1, 1, []int{0}, false},
		{1, 1, 2, nil, false},
		{1, 2, 2, nil, false},
		{1, 2, 1, []int{0}, false},
		{1, 2, 0, []int{0, 1}, false},
		{2, 0, 0, nil, true},
		{2, 0, 0, []int{0}, false},
		{2, 0, -1, []int{0}, false},
		{2, -1, -1, nil, false},
		{2, -1, 0, nil, false},
		{2, -1, -2, []int{0}, false},
		{2, 1, 1, nil, true},
		{2, 1, 0, []int{0}, true},
		{2, 1, 0, []int{1}, false},
		{2, 1, 0, []int{-1}, false},
		{2, 1, 0, []int{leastInt}, false},
		{2, 1, 0, []int{mostInt}, false},
		{2, 1, -1, []int{0, 0}, false},
		{2, 1, 0, []int{0, 0}, false},
		{2, 1, -1, []int{0, 1}, false},
		{2, 2, 2, nil, true},
		{2, 2, 1, nil, false},
		{2, 2, 3, nil, false},
		{2, 2, 1, []int{0}, true},
		{2, 2, 1, []int{1}, true},
		{2, 2, 0, []int{0}, false},
		{2, 2, 2, []int{0}, false},
		{2, 2, 1, []int{2}, false},
		{2, 2, 0, []int{0, 1}, true},
		{2, 2, 0, []int{1, 0}, true},
		{2, 2, 0, []int{1, 1}, false},
		{2, 2, 1, []int{1, 1}, false},
		{2, 2, 0, []int{0, -1}, false},
		{2, 2, -1, []int{0, 1, 0}, false},
		{2, 3, 3, nil, false},
		{2, 3, 0, []int{0, 1, 2}, false},
		{2, mostInt, mostInt, nil, false},
		{2, mostInt, 0, nil, false},
		{2, leastInt, leastInt, nil, false},
		{2, leastInt, 0, nil, false},
		{2, leastInt, mostInt, []int{0}, false},
		{2, 2, leastInt, nil, false},
		{2, 2, mostInt, nil, false},
		{3, 3, 1, []int{2, 0}, true},
		{3, 2, 0, []int{2, 0}, false},
		{40, 40, 0, upTo(40), true},
		{40, 40, 7, upTo(33), true},
		{40, 40, 38, []int{0, 16}, true},
		{40, 40, 38, []int{16, 0}, true},
		{40, 40, 38, []int{32, 16}, true},
		{40, 40, 38, []int{16, 16}, false},
		{40, 40, 38, []int{39, 39}, false},
		{40, 40, 37, []int{39, 3, 39}, false},
		{40, 40, 37, []int{39, 3, 23}, true},
		{40, 39, 38, []int{38}, true},
		{40, 39, 38, []int{39}, false},
	} {
		h := api.Heat{List: many(x.many), Next: x.next, Out: x.out, Bad: x.bad}
		for _, since := range []int{0, 5, -1, mostInt} {
			for _, due := range []bool{false, true} {
				h.Since, h.Due = since, due
				if got := heat.May(h); got != x.want {
					t.Errorf("%d: %+v: %v", i, h, got)
				}
			}
		}
	}
	if !heat.May(api.Heat{}) || !heat.May(api.Heat{List: []api.Addr{{}, {}}}) {
		t.Error("what none has begun, or of addresses that are none")
	}
}

// P15.1: all small heats, also such as may not be, held against the words.
func TestMayOfAll(t *testing.T) {
	may := 0
	for _, bad := range lists(3, -1, 0, 1, 2, 3) {
		for length := range 4 {
			for next := -1; next < 5; next++ {
				for out := -3; out < 5; out++ {
					h := api.Heat{List: many(length), Next: next, Out: out, Bad: bad}
					got := heat.May(h)
					if got != wantMay(h) {
						t.Fatal(h, got)
					}
					if got {
						may++
					}
				}
			}
		}
	}
	// Of so many in order, so many have started, and some of these have failed, in some order: 1; 1+2; 1+2+5; 1+2+5+16.
	if may != 1+3+8+24 {
		t.Error(may)
	}
}

// P15.1: Ready while Due and not, at, ahead of and behind the tick at which Since is old by the stagger, with none started, with none left.
func TestReady(t *testing.T) {
	for i, x := range []struct {
		many, next          int
		due                 bool
		since, stagger, now int
		want                bool
	}{
		{2, 1, false, 5, 3, 7, false},
		{2, 1, false, 5, 3, 8, true},
		{2, 1, false, 5, 3, 9, true},
		{2, 1, false, 5, 3, 5, false},
		{2, 1, false, 5, 3, 4, false},
		{2, 1, false, 5, 3, 0, false},
		{2, 1, false, 5, 3, last, true},
		{2, 1, true, 5, 3, 0, true},
		{2, 1, true, 5, 3, 5, true},
		{2, 1, true, 5, 3, 7, true},
		{2, 1, true, last, last, leastInt, true},
		{2, 0, true, 0, 3, 0, true},
		{2, 0, true, 5, 3, 0, true},
		{2, 0, false, 0, 3, 0, false},
		{2, 0, false, 0, 0, 0, false},
		{2, 0, false, 0, 0, 9, false},
		{2, 0, false, 5, 3, last, false},
		{2, 2, false, 5, 3, 9, false},
		{2, 2, true, 5, 3, 9, false},
		{2, 3, true, 5, 3, 9, false},
		{2, 3, false, 5, 3, 9, false},
		{2, -1, true, 5, 3, 9, false},
		{2, -1, false, 5, 3, 9, false},
		{2, leastInt, true, 5, 3, 9, false},
		{2, mostInt, true, 5, 3, 9, false},
		{2, mostInt, false, 5, 3, 9, false},
		{0, 0, true, 0, 0, 0, false},
		{0, 0, false, 0, 0, 0, false},
		{0, -1, true, 0, 0, 0, false},
		{3, 2, false, 5, 3, 7, false},
		{3, 2, false, 5, 3, 8, true},
		{2, 1, false, 5, 0, 4, false},
		{2, 1, false, 5, 0, 5, true},
		{2, 1, false, 0, 0, 0, true},
		{2, 1, false, 5, -1, 4, false},
		{2, 1, false, 5, leastInt, 5, true},
		{2, 1, false, 5, mostInt, last - 1, false},
		{2, 1, false, 5, mostInt, last, true},
		{2, 1, false, last, 3, last - 1, false},
		{2, 1, false, last, 3, last, true},
		{2, 1, false, last - 2, 3, last - 1, false},
		{2, 1, false, last - 2, 3, last, true},
		{2, 1, false, 1, last, last - 1, false},
		{2, 1, false, 1, last, last, true},
		{2, 1, false, last, last, last, true},
		{2, 1, false, last, last, mostInt, true},
		{2, 1, false, mostInt, mostInt, last - 1, false},
		{2, 1, false, mostInt, mostInt, mostInt, true},
		{2, 1, false, -1, 3, 2, false},
		{2, 1, false, -1, 3, 3, true},
		{2, 1, false, leastInt, 3, 3, true},
		{2, 1, false, leastInt, leastInt, leastInt, true},
		{2, 1, false, 0, 1, leastInt, false},
	} {
		h := api.Heat{List: many(x.many), Next: x.next, Since: x.since, Due: x.due}
		if got := heat.Ready(h, x.stagger, x.now); got != x.want {
			t.Error(i, x, got)
		}
	}
}

// P15.1: When while Due, with none started, with one left and none left; a stagger of 0; at the greatest tick; numbers that may not be.
func TestWhen(t *testing.T) {
	for i, x := range []struct {
		many, next     int
		due            bool
		since, stagger int
		at             int
		ok             bool
	}{
		{2, 1, false, 5, 3, 8, true},
		{2, 1, true, 5, 3, 0, false},
		{2, 0, false, 5, 3, 0, false},
		{2, 0, true, 5, 3, 0, false},
		{2, 2, false, 5, 3, 0, false},
		{2, 2, true, 5, 3, 0, false},
		{2, 3, false, 5, 3, 0, false},
		{2, -1, false, 5, 3, 0, false},
		{2, leastInt, false, 5, 3, 0, false},
		{2, mostInt, false, 5, 3, 0, false},
		{0, 0, false, 5, 3, 0, false},
		{0, 1, false, 5, 3, 0, false},
		{0, -1, false, 5, 3, 0, false},
		{1, 1, false, 5, 3, 0, false},
		{3, 1, false, 5, 3, 8, true},
		{3, 2, false, 5, 3, 8, true},
		{3, 3, false, 5, 3, 0, false},
		{2, 1, false, 0, 0, 0, true},
		{2, 1, false, 5, 0, 5, true},
		{2, 1, false, 0, 3, 3, true},
		{2, 1, false, last, 0, last, true},
		{2, 1, false, last, 3, last, true},
		{2, 1, false, last - 3, 3, last, true},
		{2, 1, false, last - 4, 3, last - 1, true},
		{2, 1, false, 0, last, last, true},
		{2, 1, false, last, last, last, true},
		{2, 1, false, 5, -1, 5, true},
		{2, 1, false, 5, leastInt, 5, true},
		{2, 1, false, 5, mostInt, last, true},
		{2, 1, false, -1, 3, 3, true},
		{2, 1, false, leastInt, 3, 3, true},
		{2, 1, false, mostInt, 3, last, true},
		{2, 1, false, mostInt, mostInt, last, true},
		{2, 1, false, leastInt, leastInt, 0, true},
	} {
		h := api.Heat{List: many(x.many), Next: x.next, Since: x.since, Due: x.due}
		at, ok := heat.When(h, x.stagger)
		if at != x.at || ok != x.ok {
			t.Error(i, x, at, ok)
		}
	}
}

// P15.1: the tick that When tells is that from which on the next one may start.
func TestReadyFromWhenOn(t *testing.T) {
	h := walk(heat.Begin(a, b), "s5")
	for _, since := range numbers() {
		for _, stagger := range numbers() {
			h.Since = since
			at, ok := heat.When(h, stagger)
			if !ok || at != later(since, stagger) {
				t.Fatal(since, stagger, at, ok)
			}
			for _, now := range append(numbers(), at-1, at, at+1) {
				if got := heat.Ready(h, stagger, now); got != (count(now) >= at) {
					t.Fatal(since, stagger, now, got)
				}
			}
		}
	}
}

// P15.1: Same of the same, of nil and empty lists, of heats unlike in one field, in one field of an address, in the order of a list only.
func TestSame(t *testing.T) {
	h := api.Heat{List: []api.Addr{a, b, c}, Next: 3, Out: 1, Bad: []int{2, 0}, Since: 7, Due: true}
	if !heat.Same(h, h) || !heat.Same(h, own(h)) || !heat.Same(own(h), h) {
		t.Error("the same")
	}
	if !heat.Same(api.Heat{}, api.Heat{List: []api.Addr{}, Bad: []int{}}) || !heat.Same(heat.Begin(), heat.Begin([]api.Addr{}...)) {
		t.Error("nil and empty")
	}
	for i, change := range []func(*api.Heat){
		func(h *api.Heat) { h.List = h.List[:2] },
		func(h *api.Heat) { h.List = append(h.List, c) },
		func(h *api.Heat) { h.List = nil },
		func(h *api.Heat) { h.List[0], h.List[1] = h.List[1], h.List[0] },
		func(h *api.Heat) { h.List[0].Fam = 5 },
		func(h *api.Heat) { h.List[1].G[7]++ },
		func(h *api.Heat) { h.List[2].Port++ },
		func(h *api.Heat) { h.Next++ },
		func(h *api.Heat) { h.Next = -h.Next },
		func(h *api.Heat) { h.Out-- },
		func(h *api.Heat) { h.Out = leastInt },
		func(h *api.Heat) { h.Bad = h.Bad[:1] },
		func(h *api.Heat) { h.Bad = append(h.Bad, 1) },
		func(h *api.Heat) { h.Bad = nil },
		func(h *api.Heat) { h.Bad[0], h.Bad[1] = h.Bad[1], h.Bad[0] },
		func(h *api.Heat) { h.Bad[1] = -1 },
		func(h *api.Heat) { h.Since++ },
		func(h *api.Heat) { h.Since = mostInt },
		func(h *api.Heat) { h.Due = false },
	} {
		other := own(h)
		change(&other)
		if heat.Same(h, other) || heat.Same(other, h) {
			t.Error(i, other)
		}
	}
	// What counts as the same tick is not the same.
	if heat.Same(api.Heat{Since: last}, api.Heat{Since: last + 1}) || heat.Same(api.Heat{}, api.Heat{Since: -1}) {
		t.Error("ticks as they count")
	}
}

// P15.2: the chapter's example, and Start one behind the other to the end of the list.
func TestStart(t *testing.T) {
	h := walk(heat.Begin(a, b), "s5 l0 s5")
	if !alike(h, api.Heat{List: []api.Addr{a, b}, Next: 2, Out: 1, Bad: []int{0}, Since: 5}) {
		t.Error("the example", h)
	}
	l := []api.Addr{a, b, a, c}
	h = heat.Begin(l...)
	for n, one := range l {
		at := 10 - 2*n
		o, which, whose, e := heat.Start(h, at)
		if which != n || whose != one || e != api.OK {
			t.Error(n, which, whose, e)
		}
		if !alike(o, api.Heat{List: l, Next: n + 1, Out: n + 1, Since: at}) {
			t.Error(n, o)
		}
		h = o
	}
	o, which, whose, e := heat.Start(h, 20)
	if !alike(o, h) || which != 0 || whose != (api.Addr{}) || e != api.ErrArg {
		t.Error("none left", o, which, whose, e)
	}
}

// P15.2: Start where none is left, as Next stands: h stays as it is, whatever else is in it; where one is left it need not be due, or may be.
func TestStartLeft(t *testing.T) {
	h := api.Heat{List: []api.Addr{a, b}, Out: 9, Bad: []int{7, -1, 7}, Since: -5, Due: true}
	for _, next := range []int{leastInt, -2, -1, 2, 3, mostInt} {
		h.Next = next
		for _, due := range []bool{false, true} {
			h.Due = due
			o, n, one, e := heat.Start(h, 4)
			if !alike(o, h) || n != 0 || one != (api.Addr{}) || e != api.ErrArg {
				t.Error(next, o, n, one, e)
			}
		}
	}
	for next, one := range h.List {
		h.Next = next
		for _, due := range []bool{false, true} {
			h.Due = due
			o, n, whose, e := heat.Start(h, 4)
			if !alike(o, api.Heat{List: h.List, Next: next + 1, Out: 10, Bad: h.Bad, Since: 4}) || n != next || whose != one || e != api.OK {
				t.Error(next, o, n, whose, e)
			}
		}
	}
	for _, h := range []api.Heat{{}, {Due: true}, {Next: 1}, {Next: -1}, heat.Begin()} {
		if o, n, one, e := heat.Start(h, 4); !alike(o, h) || n != 0 || one != (api.Addr{}) || e != api.ErrArg {
			t.Error("without a list", o, n, one, e)
		}
	}
}

// P15.2: Since is the tick that now counts as.
func TestStartNow(t *testing.T) {
	for _, now := range numbers() {
		o, n, one, e := heat.Start(heat.Begin(a, b), now)
		if o.Since != count(now) || o.Next != 1 || o.Out != 1 || o.Due || n != 0 || one != a || e != api.OK {
			t.Error(now, o, n, one, e)
		}
	}
}

// P15.2: Time makes due where one is left, also what may not be; where none is left all stays.
func TestTime(t *testing.T) {
	for i, x := range []struct {
		many, next int
		due, want  bool
	}{
		{0, 0, false, false},
		{0, 0, true, true},
		{0, -1, false, false},
		{0, 1, false, false},
		{1, 0, false, true},
		{1, 0, true, true},
		{1, 1, false, false},
		{1, 1, true, true},
		{2, 0, false, true},
		{2, 1, false, true},
		{2, 1, true, true},
		{2, 2, false, false},
		{2, 2, true, true},
		{2, 3, false, false},
		{2, 3, true, true},
		{2, -1, false, false},
		{2, -1, true, true},
		{2, leastInt, false, false},
		{2, mostInt, false, false},
		{2, mostInt, true, true},
	} {
		h := api.Heat{List: many(x.many), Next: x.next, Out: 3, Bad: []int{0, 9}, Since: 5, Due: x.due}
		want := h
		want.Due = x.want
		if got := heat.Time(h); !alike(got, want) {
			t.Error(i, x, got)
		}
	}
}

// P15.2: Lost of none, of one that is bad already, that has not started, that is none, of the last one that started while one is left and while none is, of several at once, of one twice in one call.
func TestLost(t *testing.T) {
	for i, x := range []struct {
		many, begun int
		bad         []int
		lost        []int
		want        []int
		due         bool
	}{
		{3, 2, nil, nil, nil, false},
		{3, 2, nil, []int{}, nil, false},
		{3, 2, nil, []int{0}, []int{0}, false},
		{3, 2, nil, []int{1}, []int{1}, true},
		{3, 2, nil, []int{2}, nil, false},
		{3, 2, nil, []int{3}, nil, false},
		{3, 2, nil, []int{-1}, nil, false},
		{3, 2, nil, []int{leastInt}, nil, false},
		{3, 2, nil, []int{mostInt}, nil, false},
		{3, 2, []int{0}, []int{0}, []int{0}, false},
		{3, 2, []int{1}, []int{1}, []int{1}, false},
		{3, 2, []int{0}, []int{1}, []int{0, 1}, true},
		{3, 2, []int{1}, []int{0}, []int{1, 0}, false},
		{3, 2, nil, []int{0, 1}, []int{0, 1}, true},
		{3, 2, nil, []int{1, 0}, []int{1, 0}, true},
		{3, 2, nil, []int{0, 0}, []int{0}, false},
		{3, 2, nil, []int{1, 1}, []int{1}, true},
		{3, 2, nil, []int{0, 1, 0, 1}, []int{0, 1}, true},
		{3, 2, nil, []int{-1, 1, 2, mostInt, 0, leastInt, 1}, []int{1, 0}, true},
		{3, 2, []int{0, 1}, []int{0, 1}, []int{0, 1}, false},
		{3, 3, nil, []int{2}, []int{2}, false},
		{3, 3, nil, []int{1}, []int{1}, false},
		{3, 3, nil, []int{3}, nil, false},
		{3, 3, []int{1}, []int{2, 1, 0}, []int{1, 2, 0}, false},
		{3, 0, nil, []int{0}, nil, false},
		{3, 0, nil, []int{-1}, nil, false},
		{3, 1, nil, []int{0}, []int{0}, true},
		{1, 1, nil, []int{0}, []int{0}, false},
		{0, 0, nil, []int{0, -1, 1}, nil, false},
		{40, 39, nil, []int{38}, []int{38}, true},
		{40, 39, nil, []int{39}, nil, false},
		{40, 39, nil, []int{16, 0, 32, 16, 0, 32}, []int{16, 0, 32}, false},
		{40, 39, []int{17, 33}, []int{1, 17, 33}, []int{17, 33, 1}, false},
		{40, 40, nil, []int{39}, []int{39}, false},
	} {
		h := api.Heat{List: many(x.many), Next: x.begun, Out: x.begun - len(x.bad), Bad: x.bad, Since: 5}
		want := h
		want.Bad, want.Out, want.Due = x.want, x.begun-len(x.want), x.due
		if got := heat.Lost(h, x.lost...); !alike(got, want) {
			t.Error(i, x, got)
		}
		// What is due already stays so, whoever is lost.
		h.Due, want.Due = true, true
		if got := heat.Lost(h, x.lost...); !alike(got, want) {
			t.Error(i, x, "due", got)
		}
	}
}

// P15.2: what is lost in one call is what is lost in several, one behind the other.
func TestLostOneByOne(t *testing.T) {
	for begun := range 4 {
		h := heat.Begin(a, b, c)
		for range begun {
			h = walk(h, "s5")
		}
		for _, l := range lists(4, -1, 0, 1, 2, 3) {
			each := h
			for _, n := range l {
				each = heat.Lost(each, n)
			}
			if got := heat.Lost(h, l...); !alike(got, each) {
				t.Fatal(begun, l, got, each)
			}
		}
	}
}

// P15.2: Lost in heats that may not be: the words alone count, at all ends of the numbers.
func TestLostOdd(t *testing.T) {
	list := []api.Addr{a, b}
	for i, x := range []struct {
		h    api.Heat
		lost []int
		want api.Heat
	}{
		{api.Heat{List: list, Next: mostInt, Out: 4}, []int{mostInt - 1, 7, mostInt, 7}, api.Heat{List: list, Next: mostInt, Out: 2, Bad: []int{mostInt - 1, 7}}},
		{api.Heat{List: list, Next: leastInt, Out: 4}, []int{leastInt, -1, 0, 1, mostInt}, api.Heat{List: list, Next: leastInt, Out: 4}},
		{api.Heat{List: list, Next: 2, Out: 0}, []int{0, 1}, api.Heat{List: list, Next: 2, Out: -2, Bad: []int{0, 1}}},
		{api.Heat{List: list, Next: 1, Out: -3}, []int{0}, api.Heat{List: list, Next: 1, Out: -4, Bad: []int{0}, Due: true}},
		{api.Heat{List: list, Next: 1, Out: mostInt}, []int{0}, api.Heat{List: list, Next: 1, Out: mostInt - 1, Bad: []int{0}, Due: true}},
		{api.Heat{List: list, Next: 1, Bad: []int{-1, mostInt, leastInt, 1, 1}}, []int{1, -1, 0}, api.Heat{List: list, Next: 1, Out: -1, Bad: []int{-1, mostInt, leastInt, 1, 1, 0}, Due: true}},
		{api.Heat{List: list, Next: 2, Bad: []int{0, 0}}, []int{0, 1}, api.Heat{List: list, Next: 2, Out: -1, Bad: []int{0, 0, 1}}},
		{api.Heat{Next: 2, Out: 2}, []int{1, 0}, api.Heat{Next: 2, Bad: []int{1, 0}}},
	} {
		if got := heat.Lost(x.h, x.lost...); !alike(got, x.want) {
			t.Errorf("%d: %+v", i, got)
		}
	}
}

// P15.3: Over with none started, one left, one under way, all failed, and with numbers that may not be.
func TestOver(t *testing.T) {
	for i, x := range []struct {
		many, next, out int
		want            bool
	}{
		{0, 0, 0, true},
		{0, 0, 1, false},
		{0, 1, 0, true},
		{1, 0, 0, false},
		{1, 1, 1, false},
		{1, 1, 0, true},
		{2, 0, 0, false},
		{2, 1, 0, false},
		{2, 1, 1, false},
		{2, 2, 2, false},
		{2, 2, 1, false},
		{2, 2, 0, true},
		{2, 2, -1, true},
		{2, 2, leastInt, true},
		{2, 2, mostInt, false},
		{2, 3, 0, true},
		{2, mostInt, 0, true},
		{2, mostInt, 1, false},
		{2, -1, 0, false},
		{2, leastInt, 0, false},
		{2, leastInt, leastInt, false},
	} {
		h := api.Heat{List: many(x.many), Next: x.next, Out: x.out}
		if got := heat.Over(h); got != x.want {
			t.Error(i, x, got)
		}
		// Who has failed, and what is due, does not count.
		h.Bad, h.Due, h.Since = []int{0, 1, 9}, true, mostInt
		if got := heat.Over(h); got != x.want {
			t.Error(i, x, "else", got)
		}
	}
	for s, want := range map[string]bool{
		"s5": false, "s5 l0": false, "s5 s8": false, "s5 s8 l0": false, "s5 s8 l1": false, "s5 s8 l1 l0": true, "s5 l0 s5 l1": true, "s5 s8 l0,1": true, "s5 l0,1 t": false,
	} {
		if got := heat.Over(walk(heat.Begin(a, b), s)); got != want {
			t.Error(s, got)
		}
	}
}

// P15.3: Failed of none, in the order in which that was told, not in that of the list; of numbers that are of no address nothing.
func TestFailed(t *testing.T) {
	for i, x := range []struct {
		list []api.Addr
		bad  []int
		want []api.Addr
	}{
		{nil, nil, nil},
		{nil, []int{0, -1, 1}, nil},
		{[]api.Addr{a, b}, nil, nil},
		{[]api.Addr{a, b}, []int{}, nil},
		{[]api.Addr{a, b}, []int{0}, []api.Addr{a}},
		{[]api.Addr{a, b}, []int{1}, []api.Addr{b}},
		{[]api.Addr{a, b, c}, []int{2, 0, 1}, []api.Addr{c, a, b}},
		{[]api.Addr{a, b}, []int{2}, nil},
		{[]api.Addr{a, b}, []int{-1}, nil},
		{[]api.Addr{a, b}, []int{leastInt, 1, mostInt, 2, 0, -1}, []api.Addr{b, a}},
		{[]api.Addr{a, b}, []int{1, 1, 0, 1}, []api.Addr{b, b, a, b}},
		{[]api.Addr{a, a}, []int{1, 0}, []api.Addr{a, a}},
		{[]api.Addr{a, {}}, []int{1}, []api.Addr{{}}},
	} {
		for _, next := range []int{0, 1, 2, 9, leastInt, mostInt} {
			if got := heat.Failed(api.Heat{List: x.list, Next: next, Bad: x.bad}); !slices.Equal(got, x.want) {
				t.Error(i, next, got)
			}
		}
	}
	if got := heat.Failed(walk(heat.Begin(a, b, c), "s1 s2 s3 l2 l0")); !slices.Equal(got, []api.Addr{c, a}) {
		t.Error(got)
	}
}

// P15.1 to P15.3: everything, of heats whose numbers may not be, held against the words.
func TestWrongNumbers(t *testing.T) {
	bads := [][]int{nil, {0}, {1, 0}, {0, 0}, {-1, 2}, {leastInt, mostInt, 1}}
	for _, list := range [][]api.Addr{{a}, {a, b}, many(17)} {
		for _, next := range numbers() {
			for _, out := range []int{leastInt, -1, 0, 1, 2, 17, mostInt} {
				for _, bad := range bads {
					for _, since := range []int{leastInt, 5, last, mostInt} {
						for _, due := range []bool{false, true} {
							h := api.Heat{List: list, Next: next, Out: out, Bad: bad, Since: since, Due: due}
							asked(t, h, 3, 8, 1, leastInt, 0, mostInt, mostInt-1, 0)
						}
					}
				}
			}
		}
	}
}

// P15.1, P15.2: the least and the greatest numbers for now, the stagger and what is lost.
func TestWrongNumbersInCalls(t *testing.T) {
	for _, h := range []api.Heat{{}, heat.Begin(a, b), walk(heat.Begin(a, b), "s5"), walk(heat.Begin(a, b), "s5 l0"), walk(heat.Begin(a, b), "s5 s8")} {
		for _, stagger := range numbers() {
			for _, now := range numbers() {
				for _, lost := range numbers() {
					asked(t, h, stagger, now, lost, 0, lost)
				}
			}
		}
	}
}

// steps answers whatever may be done to a heat of so many next: a start, being told that it is time, the loss of each, of one that is none, and of several.
func steps(many int) []string {
	all := []string{"s5", "t", "l-1", "l0,1"}
	for n := range many + 1 {
		all = append(all, "l"+strconv.Itoa(n))
	}
	return all
}

// P15.4: what may be stays so under Start, Time and Lost, in whatever order; and everything of it is as the words say.
func TestMayStays(t *testing.T) {
	for many := range 4 {
		for _, way := range lists(5, steps(many)...) {
			h := walk(heat.Begin([]api.Addr{a, b, c}[:many]...), strings.Join(way, " "))
			if !heat.May(h) {
				t.Fatal(many, way, h)
			}
			asked(t, h, 3, 7, 0, 2)
		}
	}
}

// P15.4: whatever may be, also where no calls come to it, stays so.
func TestMayStaysOfAll(t *testing.T) {
	for length := range 4 {
		for next := range length + 1 {
			for _, bad := range lists(next, upTo(next)...) {
				h := api.Heat{List: many(length), Next: next, Out: next - len(bad), Bad: bad}
				if !heat.May(h) {
					continue
				}
				for _, due := range []bool{false, true} {
					h.Due = due
					o, _, _, _ := heat.Start(h, 7)
					if !heat.May(o) || !heat.May(heat.Time(h)) {
						t.Fatal(h, "start, time")
					}
					for _, lost := range lists(3, -1, 0, 1, 2, 3) {
						if got := heat.Lost(h, lost...); !heat.May(got) {
							t.Fatal(h, lost, got)
						}
					}
				}
			}
		}
	}
}

// P15.4: attempts start in order, each once, whatever else happens between.
func TestStartInOrder(t *testing.T) {
	l := []api.Addr{b, a, c}
	for _, way := range lists(6, "s5", "t", "l0", "l1", "l2") {
		h := heat.Begin(l...)
		begun := 0
		for _, step := range way {
			if step != "s5" {
				h = walk(h, step)
				continue
			}
			o, n, one, e := heat.Start(h, 5)
			if want := begun < len(l); (e == api.OK) != want || want && (n != begun || one != l[begun]) {
				t.Fatal(way, n, one, e)
			}
			if e == api.OK {
				begun++
			}
			h = o
		}
		if h.Next != begun {
			t.Fatal(way, h)
		}
	}
}

// driven is a heat that is driven tick by tick, and what is known of it by other means.
type driven struct {
	h         api.Heat
	past      []api.Pace
	timed     bool // since the last start it was told that it is time, while one was left
	told      bool // it ever was
	lastFails bool // the last one that started has failed
}

// start starts the next one of d at now, if it is ready, and tells whether it may be that it was.
func (d *driven) start(stagger, now int) bool {
	if !heat.Ready(d.h, stagger, now) {
		return true
	}
	begun := len(pace.Starts(d.past...))
	ahead := begun > 0 && !d.lastFails && !d.timed && now < d.h.Since+stagger
	o, n, _, e := heat.Start(d.h, now)
	d.h, d.past = o, append(d.past, api.Pace{N: n, At: now})
	d.timed, d.lastFails = false, false
	return e == api.OK && n == begun && !ahead
}

// lose tells d at now that n has failed.
func (d *driven) lose(now, n int) {
	had := len(d.h.Bad)
	last := d.h.Next - 1
	d.h = heat.Lost(d.h, n)
	if len(d.h.Bad) > had {
		d.past = append(d.past, api.Pace{Fail: true, N: n, At: now})
		d.lastFails = d.lastFails || n == last
	}
}

// time tells d that it is time.
func (d *driven) time() {
	d.timed = d.timed || d.h.Next < len(d.h.List)
	d.told = true
	d.h = heat.Time(d.h)
}

// P15.4: the next one starts not ahead of the failure of the last one, or of the stagger, or of being told that it is time; where that is never told the history keeps the pace (chapter 14).
func TestNotAhead(t *testing.T) {
	begun := map[int]int{}
	for stagger := range 4 {
		for _, way := range lists(7, "wait", "start", "time", "lose 0", "lose 1") {
			d, now := driven{h: heat.Begin(a, b, c)}, 0
			for _, step := range way {
				switch step {
				case "wait":
					now++
				case "start":
					if !d.start(stagger, now) {
						t.Fatal(stagger, way, d)
					}
				case "time":
					d.time()
				default:
					d.lose(now, int(step[5]-'0'))
				}
			}
			if !d.told && !pace.Keeps(stagger, d.past...) {
				t.Fatal(stagger, way, d.past)
			}
			begun[d.h.Next]++
		}
	}
	if got := slices.Sorted(maps.Keys(begun)); !slices.Equal(got, upTo(4)) {
		t.Error("not as many started as may", got)
	}
}

// P15.4: who starts where it is ready, tick by tick, starts as is planned (chapter 14), if none fails.
func TestAsPlanned(t *testing.T) {
	for stagger := range 5 {
		h := heat.Begin(many(5)...)
		var at []int
		for now := 3; now < 40; now++ {
			for range 6 {
				if heat.Ready(h, stagger, now) {
					h = walk(h, "s"+strconv.Itoa(now))
					at = append(at, now)
				}
			}
		}
		if want := pace.Plan(5, 3, stagger); !slices.Equal(at, want) {
			t.Error(stagger, at, want)
		}
	}
}

// P15.4: a heat all of whose attempts fail is over, not sooner, and the failed ones are its list, in the order in which they failed.
func TestAllFail(t *testing.T) {
	for length := range 6 {
		l := many(length)
		for _, order := range orders(upTo(length)) {
			h := heat.Begin(l...)
			for range l {
				h = walk(h, "s5")
			}
			var failed []api.Addr
			for _, n := range order {
				if heat.Over(h) {
					t.Fatal(order, n, "over too soon")
				}
				h = heat.Lost(h, n)
				failed = append(failed, to(n))
			}
			got := heat.Failed(h)
			if !heat.Over(h) || !heat.May(h) || !slices.Equal(got, failed) || !slices.Equal(addr.Sorted(got...), addr.Sorted(l...)) {
				t.Fatal(order, h)
			}
			if !alike(heat.Lost(h, order...), h) {
				t.Fatal(order, "more failed than there are")
			}
		}
	}
}

// P15.4: the same where each next one starts behind the failure of the last one, and where an address stands twice.
func TestAllFailInTurn(t *testing.T) {
	l := []api.Addr{a, b, a, c}
	h := heat.Begin(l...)
	for n := range l {
		if heat.Over(h) || !h.Due || !heat.Ready(h, last, 0) {
			t.Fatal(n, h)
		}
		h = walk(h, "s5")
		if heat.Over(h) || h.Due || heat.Ready(h, last, 6) {
			t.Fatal(n, h)
		}
		h = heat.Lost(h, n)
	}
	if !heat.Over(h) || h.Due || !slices.Equal(heat.Failed(h), l) {
		t.Error(h)
	}
}

// some are heats of all kinds, some of which may not be.
func some() []api.Heat {
	return []api.Heat{
		{},
		{Next: 3, Bad: []int{2, 2, -1}},
		heat.Begin(a),
		heat.Begin(a, b),
		walk(heat.Begin(a, b), "s5"),
		walk(heat.Begin(a, b), "s5 l0"),
		walk(heat.Begin(a, b), "s5 s8 l1"),
		walk(heat.Begin(a, b, c), "s5 s8 l1 l0"),
		walk(heat.Begin(a, b, c), "s5 s8 s11 l1,2,0"),
		{List: []api.Addr{a, b}, Next: leastInt, Out: mostInt, Bad: []int{mostInt, 1, 0}, Since: -1, Due: true},
	}
}

// R4: what is handed in stays as it was, spare room behind it included.
func TestNothingChanged(t *testing.T) {
	for i, h := range some() {
		lost := append([]int{0, 1, 9, -1}, 2, 2)
		h, was := own(h), own(h)
		heat.Begin(h.List...)
		heat.May(h)
		heat.Ready(h, 3, 8)
		heat.When(h, 3)
		heat.Start(h, 8)
		heat.Time(h)
		heat.Lost(h)
		heat.Lost(h, lost[:4]...)
		heat.Lost(h, lost[:4]...)
		heat.Over(h)
		heat.Failed(h)
		heat.Same(h, was)
		if !alike(h, was) || !slices.Equal(lost, []int{0, 1, 9, -1, 2, 2}) {
			t.Fatal(i, h)
		}
		if !slices.Equal(h.List[:len(h.List)+3], was.List[:len(was.List)+3]) || !slices.Equal(h.Bad[:len(h.Bad)+3], was.Bad[:len(was.Bad)+3]) {
			t.Fatal(i, "spare room", h)
		}
	}
}

// scratch writes over all of h's lists, and the room behind them.
func scratch(h api.Heat) {
	list, bad := h.List[:cap(h.List)], h.Bad[:cap(h.Bad)]
	for n := range list {
		list[n] = to(999)
	}
	for n := range bad {
		bad[n] = 999
	}
}

// R4: what is answered is new memory, and so are two answers, behind an error, too: what is done to one is not seen in another, or in what was handed in.
func TestMemoryOfItsOwn(t *testing.T) {
	lost := []int{1, 0, 2}
	for i, h := range some() {
		h, was := own(h), own(h)
		for k, call := range []func() api.Heat{
			func() api.Heat { return heat.Begin(h.List...) },
			func() api.Heat { o, _, _, _ := heat.Start(h, 8); return o },
			func() api.Heat { return heat.Time(h) },
			func() api.Heat { return heat.Lost(h) },
			func() api.Heat { return heat.Lost(h, lost...) },
			func() api.Heat { return api.Heat{List: heat.Failed(h)} },
		} {
			first, second := call(), call()
			want := own(first)
			scratch(second)
			if !alike(first, want) || !alike(h, was) {
				t.Fatal(i, k, first, h)
			}
			scratch(first)
			if !alike(call(), want) || !alike(h, was) || !slices.Equal(lost, []int{1, 0, 2}) {
				t.Fatal(i, k, h)
			}
		}
	}
}

// R4: of one heat several may come, which do not see each other.
func TestApart(t *testing.T) {
	from := walk(heat.Begin(many(9)...), "s1 s2 s3 s4 l0 l1")
	third, fourth := heat.Lost(from, 2), heat.Lost(from, 3)
	if !slices.Equal(third.Bad, []int{0, 1, 2}) || !slices.Equal(fourth.Bad, []int{0, 1, 3}) || !slices.Equal(from.Bad, []int{0, 1}) {
		t.Error(third, fourth, from)
	}
}

// R3: the same again, whatever was asked between.
func TestAgain(t *testing.T) {
	h := walk(heat.Begin(a, b, c), "s5 s8 l0")
	was := own(h)
	for range 50 {
		for _, other := range some() {
			heat.Start(other, 9)
			heat.Lost(other, 0, 1, 2)
			heat.May(other)
		}
		if !heat.May(h) || heat.Ready(h, 3, 10) || !heat.Ready(h, 3, 11) || heat.Over(h) || !heat.Same(h, was) {
			t.Fatal("asked")
		}
		if at, ok := heat.When(h, 3); at != 11 || !ok {
			t.Fatal(at, ok)
		}
		if o, n, one, e := heat.Start(h, 9); n != 2 || one != c || e != api.OK || o.Since != 9 {
			t.Fatal(o, n, one, e)
		}
		if got := heat.Lost(h, 1); !slices.Equal(got.Bad, []int{0, 1}) || !got.Due {
			t.Fatal(got)
		}
	}
}

// R1: long heats end: all started, lost in one call from the last one on, each told twice; and numbers far apart.
func TestLong(t *testing.T) {
	const length = 100000
	h := heat.Begin(many(length)...)
	h.Next, h.Out = length-1, length-1
	h, n, one, e := heat.Start(h, 7)
	if n != length-1 || one != to(length-1) || e != api.OK || h.Out != length {
		t.Fatal(n, one, e)
	}
	lost := upTo(length)
	slices.Reverse(lost)
	h = heat.Lost(h, append(lost, upTo(length)...)...)
	if !slices.Equal(h.Bad, lost) || h.Out != 0 || !heat.May(h) || !heat.Over(h) {
		t.Error("all lost")
	}
	if got := heat.Failed(h); len(got) != length || got[0] != to(length-1) || got[length-1] != to(0) {
		t.Error("failed")
	}
	h.Bad[length-1] = 1
	if heat.May(h) {
		t.Error("one twice")
	}
	far := api.Heat{Next: mostInt}
	for n := range length {
		far.Bad = append(far.Bad, mostInt/length*n, leastInt/length*n)
	}
	if got := heat.Lost(far, far.Bad...); !alike(got, far) {
		t.Error("far apart")
	}
}
