package scar_test

import (
	"maps"
	"slices"
	"testing"

	"switchboard/api"
	"switchboard/scar"
)

const (
	mostInt  = int(^uint(0) >> 1)
	leastInt = -mostInt - 1

	// The greatest tick and the most scars, written out, so that the tests do not hang on what they test against.
	last = 1073741824
	most = 32
)

// Three addresses of two families.
var (
	a = api.Addr{Fam: 4, G: [8]uint16{0x0102, 0x0304}, Port: 80}
	b = api.Addr{Fam: 6, G: [8]uint16{7: 1}, Port: 80}
	c = api.Addr{Fam: 4, G: [8]uint16{0x0102, 0x0304}, Port: 81}
)

// ticks are ticks, and what counts as one.
func ticks() []int {
	return []int{leastInt, leastInt + 1, -last, -1, 0, 1, 2, 5, 6, 7, last - 2, last - 1, last, last + 1, mostInt - 1, mostInt}
}

// counts answers the tick that t counts as, by the words of it.
func counts(t int) int {
	switch {
	case t < 0:
		return 0
	case t > last:
		return last
	}
	return t
}

// old says whether what is since a tick is old, by the words of it.
func old(since, age, now int) bool {
	return counts(now) >= counts(counts(since)+counts(age))
}

// to answers the n-th of many addresses.
func to(n int) api.Addr {
	return api.Addr{Fam: 4, G: [8]uint16{uint16(n >> 16), uint16(n)}, Port: 9}
}

// many answers the addresses from the n-th one on, ahead of the m-th one.
func many(n, m int) []api.Addr {
	var all []api.Addr
	for ; n < m; n++ {
		all = append(all, to(n))
	}
	return all
}

// at answers scars of those addresses, each noted at that tick.
func at(t int, all ...api.Addr) []api.Scar {
	var l []api.Scar
	for _, one := range all {
		l = append(l, api.Scar{Addr: one, At: t})
	}
	return l
}

// join answers those of l, and those of the others behind them.
func join(l ...[]api.Scar) []api.Scar {
	return slices.Concat(l...)
}

// odd are addresses that may not be, some of them unlike in one field, or one group, only.
func odd() []api.Addr {
	return []api.Addr{
		{},
		{Port: 1},
		{Fam: -1, Port: mostInt},
		{Fam: 4, G: [8]uint16{1, 2, 0, 0, 0, 0, 0, 3}, Port: 80},
		{Fam: 5, G: [8]uint16{1, 2, 0, 0, 0, 0, 0, 3}, Port: 80},
		{Fam: 6, Port: leastInt},
		{Fam: 127, G: [8]uint16{65535, 65535, 65535, 65535, 65535, 65535, 65535, 65535}, Port: -1},
	}
}

// lists are all lists of up to length of the things, the short ones first.
func lists[T any](length int, things ...T) [][]T {
	all := [][]T{nil}
	from := 0
	for range length {
		to := len(all)
		for _, l := range all[from:to] {
			for _, v := range things {
				all = append(all, append(slices.Clone(l), v))
			}
		}
		from = to
	}
	return all
}

// alike says, one by one, whether l and m are the same in the same order.
func alike(l, m []api.Scar) bool {
	if len(l) != len(m) {
		return false
	}
	for i := range l {
		if l[i].Addr != m[i].Addr || l[i].At != m[i].At {
			return false
		}
	}
	return true
}

// wantNote, wantHeal, wantFresh, wantHas and wantWorst say what the chapter says, by other means.
func wantNote(l []api.Scar, now int, all ...api.Addr) []api.Scar {
	for _, one := range all {
		l = append(wantHeal(l, one), api.Scar{Addr: one, At: counts(now)})
	}
	for len(l) > most {
		l = l[1:]
	}
	return l
}

func wantHeal(l []api.Scar, all ...api.Addr) []api.Scar {
	return slices.DeleteFunc(slices.Clone(l), func(s api.Scar) bool { return slices.Contains(all, s.Addr) })
}

func wantFresh(l []api.Scar, age, now int) []api.Scar {
	return slices.DeleteFunc(slices.Clone(l), func(s api.Scar) bool { return old(s.At, age, now) })
}

func wantHas(l []api.Scar, age, now int, all ...api.Addr) bool {
	for _, one := range all {
		is := func(s api.Scar) bool { return s.Addr == one && !old(s.At, age, now) }
		if !slices.ContainsFunc(l, is) {
			return false
		}
	}
	return true
}

func wantWorst(l []api.Scar, age, now int) (api.Addr, bool) {
	for n := len(l) - 1; n >= 0; n-- {
		if !old(l[n].At, age, now) {
			return l[n].Addr, true
		}
	}
	return api.Addr{}, false
}

// P12.1: the chapter's example: what is noted once more stands last, and its older scar goes.
func TestNoteAgain(t *testing.T) {
	l := scar.Note(nil, 3, a)
	l = scar.Note(l, 4, b)
	l = scar.Note(l, 5, a)
	if want := join(at(4, b), at(5, a)); !alike(l, want) {
		t.Errorf("%v, want %v", l, want)
	}
}

// P12.1: Note of none, one, several, the same twice; of one that has a scar at the front, in the middle, at the end, several of them.
func TestNote(t *testing.T) {
	d := to(4)
	l := join(at(3, a), at(4, b), at(6, c))
	for i, x := range []struct {
		l    []api.Scar
		a    []api.Addr
		want []api.Scar
	}{
		{nil, nil, nil},
		{l, nil, l},
		{nil, []api.Addr{a}, at(9, a)},
		{[]api.Scar{}, []api.Addr{a}, at(9, a)},
		{l, []api.Addr{d}, join(l, at(9, d))},
		{l, []api.Addr{a}, join(at(4, b), at(6, c), at(9, a))},
		{l, []api.Addr{b}, join(at(3, a), at(6, c), at(9, b))},
		{l, []api.Addr{c}, join(at(3, a), at(4, b), at(9, c))},
		{l, []api.Addr{d, a}, join(at(4, b), at(6, c), at(9, d, a))},
		{l, []api.Addr{c, b, a}, at(9, c, b, a)},
		{l, []api.Addr{d, d}, join(l, at(9, d))},
		{l, []api.Addr{a, a}, join(at(4, b), at(6, c), at(9, a))},
		{l, []api.Addr{a, d, a}, join(at(4, b), at(6, c), at(9, d, a))},
		{l, []api.Addr{d, a, a, d, b}, join(at(6, c), at(9, a, d, b))},
		{join(l, l), []api.Addr{b}, join(at(3, a), at(6, c), at(3, a), at(6, c), at(9, b))},
		{join(l, l), []api.Addr{d}, join(l, l, at(9, d))},
		{at(9, a, a, a), []api.Addr{a}, at(9, a)},
		{at(9, a, a, a), nil, at(9, a, a, a)},
		{at(20, a, b), []api.Addr{a}, join(at(20, b), at(9, a))},
	} {
		if got := scar.Note(x.l, 9, x.a...); !alike(got, x.want) {
			t.Errorf("%d: %v, want %v", i, got, x.want)
		}
	}
}

// P12.1: it is noted at the tick that now counts as; what was noted ahead stays at its own, which may be none.
func TestNoteNow(t *testing.T) {
	for _, now := range ticks() {
		for _, was := range ticks() {
			want := join(at(was, b), at(counts(now), c, a))
			if got := scar.Note(at(was, b, a), now, c, a); !alike(got, want) {
				t.Fatalf("at %d, behind %d: %v, want %v", now, was, got, want)
			}
		}
	}
	for _, x := range []struct{ now, at int }{
		{leastInt, 0}, {-1, 0}, {0, 0}, {1, 1}, {last - 1, last - 1}, {last, last}, {last + 1, last}, {mostInt, last},
	} {
		if got := scar.Note(nil, x.now, a); !alike(got, at(x.at, a)) {
			t.Error(x, got)
		}
	}
}

// P12.1: 32 may stand behind it; of 33 and more the first ones go, those of the call itself, too.
func TestNoteMost(t *testing.T) {
	for i, x := range []struct {
		l    []api.Scar
		a    []api.Addr
		want []api.Scar
	}{
		{at(1, many(0, 31)...), many(31, 32), join(at(1, many(0, 31)...), at(9, to(31)))},
		{at(1, many(0, 32)...), many(32, 33), join(at(1, many(1, 32)...), at(9, to(32)))},
		{at(1, many(0, 32)...), many(32, 35), join(at(1, many(3, 32)...), at(9, many(32, 35)...))},
		{at(1, many(0, 32)...), nil, at(1, many(0, 32)...)},
		{at(1, many(0, 32)...), many(0, 1), join(at(1, many(1, 32)...), at(9, to(0)))},
		{at(1, many(0, 32)...), many(31, 32), join(at(1, many(0, 31)...), at(9, to(31)))},
		{at(1, many(0, 32)...), many(0, 32), at(9, many(0, 32)...)},
		{nil, many(0, 31), at(9, many(0, 31)...)},
		{nil, many(0, 32), at(9, many(0, 32)...)},
		{nil, many(0, 33), at(9, many(1, 33)...)},
		{nil, many(0, 100), at(9, many(68, 100)...)},
		{at(1, many(0, 5)...), many(5, 100), at(9, many(68, 100)...)},
		{nil, append(many(0, 32), to(0)), at(9, append(many(1, 32), to(0))...)},
		{at(1, many(0, 33)...), nil, at(1, many(1, 33)...)},
		{at(1, many(0, 100)...), nil, at(1, many(68, 100)...)},
		{at(1, many(0, 100)...), many(100, 101), join(at(1, many(69, 100)...), at(9, to(100)))},
		{at(1, many(0, 33)...), many(5, 6), join(at(1, many(1, 5)...), at(1, many(6, 33)...), at(9, to(5)))},
		{at(1, many(0, 33)...), many(0, 1), join(at(1, many(1, 33)...), at(9, to(0)))[1:]},
		{at(1, many(0, 34)...), many(33, 34), join(at(1, many(2, 33)...), at(9, to(33)))},
	} {
		if got := scar.Note(x.l, 9, x.a...); !alike(got, x.want) {
			t.Errorf("%d: %v, want %v", i, got, x.want)
		}
	}
}

// P12.1: the first ones go behind all of a: what a later one of a takes away leaves room for one that stood ahead.
func TestNoteMostBehindAll(t *testing.T) {
	twice := join(at(1, many(0, 30)...), at(1, a, a))
	if got, want := scar.Note(twice, 9, b, a), join(at(1, many(0, 30)...), at(9, b, a)); !alike(got, want) {
		t.Errorf("%v, want %v", got, want)
	}
	great := at(1, many(0, 40)...)
	if got, want := scar.Note(great, 9, append(many(20, 28), b)...), join(at(1, many(1, 20)...), at(1, many(28, 40)...), at(9, many(20, 28)...), at(9, b)); !alike(got, want[len(want)-most:]) {
		t.Errorf("%v, want %v", got, want)
	}
	round := append(many(0, 40), many(0, 20)...)
	if got, want := scar.Note(nil, 9, round...), at(9, append(many(28, 40), many(0, 20)...)...); !alike(got, want) {
		t.Errorf("%v, want %v", got, want)
	}
}

// P12.1: Heal of none, one, several, one that has none, one that has several, the same one twice.
func TestHeal(t *testing.T) {
	l := join(at(3, a), at(4, b), at(6, c))
	for i, x := range []struct {
		l    []api.Scar
		a    []api.Addr
		want []api.Scar
	}{
		{nil, nil, nil},
		{nil, []api.Addr{a}, nil},
		{l, nil, l},
		{l, []api.Addr{a}, l[1:]},
		{l, []api.Addr{b}, join(at(3, a), at(6, c))},
		{l, []api.Addr{c}, l[:2]},
		{l, []api.Addr{a, c}, l[1:2]},
		{l, []api.Addr{c, a}, l[1:2]},
		{l, []api.Addr{c, b, a}, nil},
		{l, []api.Addr{to(1)}, l},
		{l, []api.Addr{to(1), b, to(2)}, join(at(3, a), at(6, c))},
		{l, []api.Addr{b, b}, join(at(3, a), at(6, c))},
		{l, []api.Addr{{}}, l},
		{join(l, l, l), []api.Addr{b}, join(at(3, a), at(6, c), at(3, a), at(6, c), at(3, a), at(6, c))},
		{at(9, a, a, a), []api.Addr{a}, nil},
		{at(1, many(0, 100)...), nil, at(1, many(0, 100)...)},
		{at(1, many(0, 100)...), many(0, 2), at(1, many(2, 100)...)},
	} {
		if got := scar.Heal(x.l, x.a...); !alike(got, x.want) {
			t.Errorf("%d: %v, want %v", i, got, x.want)
		}
	}
}

// P12.1, P12.2: addresses are told apart by each of their fields and groups.
func TestUnlikeInOne(t *testing.T) {
	unlike := []api.Addr{{Fam: b.Fam, G: b.G, Port: 81}, {Fam: 4, G: b.G, Port: b.Port}}
	for n := range 8 {
		other := b
		other.G[n] ^= 0x0100
		unlike = append(unlike, other)
	}
	for _, other := range unlike {
		l := at(3, b)
		if got := scar.Heal(l, other); !alike(got, l) {
			t.Error("healed", other)
		}
		if got := scar.Note(l, 4, other); !alike(got, join(l, at(4, other))) {
			t.Error("noted", other, got)
		}
		if scar.Has(l, 5, 4, other) || !scar.Has(l, 5, 4, b) {
			t.Error("has", other)
		}
	}
}

// P12.1: all short lists, of scars of one address twice and out of the order of their ticks, too, by the words of the chapter.
func TestNoteAndHealAll(t *testing.T) {
	var scars []api.Scar
	for _, one := range []api.Addr{a, b, c} {
		scars = append(scars, at(5, one)[0], at(leastInt, one)[0])
	}
	for _, l := range lists(3, scars...) {
		for _, some := range lists(3, a, b, c, to(1)) {
			if got, want := scar.Note(l, 4, some...), wantNote(l, 4, some...); !alike(got, want) {
				t.Fatalf("noted %v in %v: %v, want %v", some, l, got, want)
			}
			if got, want := scar.Heal(l, some...), wantHeal(l, some...); !alike(got, want) {
				t.Fatalf("healed %v in %v: %v, want %v", some, l, got, want)
			}
		}
	}
}

// P12.1: addresses that may not be are noted and healed as they stand.
func TestNoteAndHealOdd(t *testing.T) {
	var scars []api.Scar
	for n, one := range odd() {
		scars = append(scars, api.Scar{Addr: one, At: []int{leastInt, -1, 0, last, last + 1, mostInt, 7}[n]})
	}
	for _, l := range lists(3, scars...) {
		for _, some := range lists(2, odd()...) {
			if got, want := scar.Note(l, mostInt, some...), wantNote(l, mostInt, some...); !alike(got, want) {
				t.Fatalf("noted %v in %v: %v, want %v", some, l, got, want)
			}
			if got, want := scar.Heal(l, some...), wantHeal(l, some...); !alike(got, want) {
				t.Fatalf("healed %v in %v: %v, want %v", some, l, got, want)
			}
		}
	}
}

// P12.2: the chapter's example: of age 2, noted at 5, it is fresh at 6, and not at 7.
func TestHasExample(t *testing.T) {
	l := scar.Note(nil, 5, a)
	if !scar.Has(l, 2, 6, a) || scar.Has(l, 2, 7, a) {
		t.Error(l)
	}
}

// fresher are how old a scar gets, when it was noted and when it is asked for, and whether it is fresh then.
func fresher() []struct {
	at, age, now int
	want         bool
} {
	return []struct {
		at, age, now int
		want         bool
	}{
		{5, 2, 6, true}, {5, 2, 7, false}, {5, 2, 8, false}, {5, 2, 5, true}, {5, 2, 4, true}, {5, 2, 0, true}, {5, 2, leastInt, true}, {5, 2, mostInt, false},
		{5, 0, 5, false}, {5, 0, 4, true}, {5, 0, 6, false}, {5, -1, 5, false}, {5, -1, 4, true}, {5, leastInt, 5, false}, {5, leastInt, 4, true},
		{5, 1, 5, true}, {5, 1, 6, false}, {5, 1, 4, true},
		{5, mostInt, last - 1, true}, {5, mostInt, last, false}, {5, mostInt, mostInt, false}, {5, last, last - 1, true}, {5, last, last, false},
		{0, 0, 0, false}, {0, 0, -1, false}, {0, 0, leastInt, false}, {0, 1, 0, true}, {0, 1, -1, true}, {0, 1, leastInt, true}, {0, 1, 1, false},
		{-1, 1, 0, true}, {-1, 1, 1, false}, {leastInt, 1, 0, true}, {leastInt, 1, 1, false}, {leastInt, 0, leastInt, false}, {leastInt, mostInt, last - 1, true},
		{last - 1, 1, last - 1, true}, {last - 1, 1, last, false}, {last - 1, 5, last - 1, true}, {last - 1, 5, last, false},
		{last, 1, last, false}, {last, 1, last - 1, true}, {last, mostInt, mostInt, false}, {last + 1, 9, last - 1, true}, {last + 1, 9, last, false},
		{mostInt, 0, last - 1, true}, {mostInt, 0, last, false}, {mostInt, mostInt, mostInt, false}, {mostInt, mostInt, leastInt, true}, {mostInt, leastInt, 0, true},
	}
}

// P12.2: Fresh, Has and Worst, for ages, nows and ticks at and beyond the ends of what a tick may be.
func TestFreshWhen(t *testing.T) {
	for _, x := range fresher() {
		l := at(x.at, b)
		var want []api.Scar
		var one api.Addr
		if x.want {
			want, one = l, b
		}
		if got := scar.Fresh(l, x.age, x.now); !alike(got, want) {
			t.Error("fresh", x, got)
		}
		if scar.Has(l, x.age, x.now, b) != x.want {
			t.Error("has", x)
		}
		if worst, ok := scar.Worst(l, x.age, x.now); ok != x.want || worst != one {
			t.Error("worst", x, worst, ok)
		}
	}
}

// P12.2: Fresh keeps the order, and those that stand twice.
func TestFresh(t *testing.T) {
	l := join(at(9, a), at(3, b), at(7, c), at(9, a), at(4, to(1)))
	for i, x := range []struct {
		l    []api.Scar
		now  int
		want []api.Scar
	}{
		{nil, 0, nil},
		{[]api.Scar{}, 0, nil},
		{l, 5, l},
		{l, 6, join(l[:1], l[2:])},
		{l, 7, join(l[:1], l[2:4])},
		{l, 10, join(l[:1], l[3:4])},
		{l, 12, nil},
	} {
		if got := scar.Fresh(x.l, 3, x.now); !alike(got, x.want) {
			t.Errorf("%d: %v, want %v", i, got, x.want)
		}
	}
}

// P12.2: Has of none, one, several of which one is not fresh, or is not there; of one that has several scars one fresh one is enough.
func TestHas(t *testing.T) {
	l := join(at(9, a), at(3, b), at(7, c), at(4, b))
	for i, x := range []struct {
		l    []api.Scar
		now  int
		a    []api.Addr
		want bool
	}{
		{nil, 0, nil, true},
		{l, mostInt, nil, true},
		{nil, 0, []api.Addr{a}, false},
		{nil, 0, []api.Addr{{}}, false},
		{l, 8, []api.Addr{a}, true},
		{l, 8, []api.Addr{a, c}, true},
		{l, 8, []api.Addr{c, a}, true},
		{l, 8, []api.Addr{a, a, c, a}, true},
		{l, 8, []api.Addr{b}, false},
		{l, 8, []api.Addr{a, b, c}, false},
		{l, 8, []api.Addr{b, a, c}, false},
		{l, 8, []api.Addr{a, c, b}, false},
		{l, 6, []api.Addr{b}, true},
		{l, 6, []api.Addr{a, b, c}, true},
		{l, 6, []api.Addr{a, b, c, to(1)}, false},
		{l, 6, []api.Addr{to(1)}, false},
		{l, 6, []api.Addr{{}}, false},
		{l, 7, []api.Addr{b}, false},
		{join(at(9, b), at(3, b)), 8, []api.Addr{b}, true},
		{join(at(3, b), at(9, b)), 8, []api.Addr{b, b}, true},
	} {
		if scar.Has(x.l, 3, x.now, x.a...) != x.want {
			t.Error(i, !x.want)
		}
	}
}

// P12.2: Worst where none is fresh, where the last one is not but one ahead of it is, where the last one was noted at a lesser tick than others.
func TestWorst(t *testing.T) {
	l := join(at(9, a), at(7, b), at(8, c), at(3, to(1)))
	for i, x := range []struct {
		l    []api.Scar
		now  int
		want api.Addr
		ok   bool
	}{
		{nil, 0, api.Addr{}, false},
		{[]api.Scar{}, 0, api.Addr{}, false},
		{l, 5, to(1), true},
		{l, 6, c, true},
		{l, 10, c, true},
		{l, 11, a, true},
		{l, 12, api.Addr{}, false},
		{l[:2], 9, b, true},
		{l[:2], 10, a, true},
		{at(3, api.Addr{}), 4, api.Addr{}, true},
		{at(3, api.Addr{}), 6, api.Addr{}, false},
		{at(3, a, b, a), 5, a, true},
		{at(3, a, b), 5, b, true},
	} {
		if worst, ok := scar.Worst(x.l, 3, x.now); ok != x.ok || worst != x.want {
			t.Error(i, worst, ok)
		}
	}
}

// P12.2: all short lists of scars whose ticks may not be, and of addresses that may not, by the words of the chapter.
func TestFreshAll(t *testing.T) {
	var scars []api.Scar
	for n, one := range []api.Addr{a, b, {}, a} {
		scars = append(scars, api.Scar{Addr: one, At: []int{leastInt, 5, mostInt, last - 1}[n]})
	}
	for _, l := range lists(3, scars...) {
		for _, age := range []int{leastInt, -1, 0, 1, 2, last, mostInt} {
			for _, now := range ticks() {
				if got, want := scar.Fresh(l, age, now), wantFresh(l, age, now); !alike(got, want) {
					t.Fatalf("fresh of %v, %d, %d: %v, want %v", l, age, now, got, want)
				}
				one, ok := scar.Worst(l, age, now)
				if want, yes := wantWorst(l, age, now); one != want || ok != yes {
					t.Fatalf("worst of %v, %d, %d: %v %v", l, age, now, one, ok)
				}
				for _, some := range lists(2, a, b, c, api.Addr{}) {
					if want := wantHas(l, age, now, some...); scar.Has(l, age, now, some...) != want {
						t.Fatalf("has of %v, %d, %d, %v: %v", l, age, now, some, !want)
					}
				}
			}
		}
	}
}

// P12.3: rows of unlike lengths, in another order, unlike in one field or one group only.
func TestSame(t *testing.T) {
	l := join(at(3, a), at(4, b))
	for i, x := range []struct {
		a, b []api.Scar
		want bool
	}{
		{nil, nil, true},
		{nil, []api.Scar{}, true},
		{nil, make([]api.Scar, 1), false},
		{make([]api.Scar, 1), make([]api.Scar, 2), false},
		{make([]api.Scar, 2), make([]api.Scar, 2), true},
		{l, slices.Clone(l), true},
		{l, l[:1], false},
		{l, join(at(4, b), at(3, a)), false},
		{l, join(at(3, a), at(5, b)), false},
		{l, join(at(4, a), at(4, b)), false},
		{l, join(at(3, c), at(4, b)), false},
		{l, join(at(3, a), at(4, a)), false},
		{at(-1, a), at(0, a), false},
		{at(last, a), at(last+1, a), false},
		{at(mostInt, a), at(mostInt, a), true},
		{at(leastInt, a), at(mostInt, a), false},
		{at(3, api.Addr{Fam: 4}), at(3, api.Addr{Fam: 6}), false},
		{at(3, api.Addr{Port: -1}), at(3, api.Addr{Port: 1}), false},
	} {
		if scar.Same(x.a, x.b) != x.want || scar.Same(x.b, x.a) != x.want {
			t.Error(i, !x.want)
		}
	}
	for n := range 8 {
		other := b
		other.G[n]++
		if scar.Same(at(3, a, b), at(3, a, other)) {
			t.Error(n)
		}
	}
}

// P12.4: what was noted last is last, and fresh for an age of 1 and more, till that is over.
func TestNotedLast(t *testing.T) {
	for _, l := range [][]api.Scar{nil, at(3, a, b, c), at(3, b, a, b), at(7, many(0, 32)...), at(mostInt, many(0, 50)...)} {
		for _, now := range ticks() {
			noted := scar.Note(l, now, c, a)
			if s := noted[len(noted)-1]; s.Addr != a {
				t.Fatal(l, now, s)
			}
			if counts(now) == last {
				continue // Nothing is fresh at the last tick.
			}
			for _, age := range []int{1, 2, 3, last - 1, last, mostInt} {
				over := counts(counts(now) + counts(age))
				for _, then := range append(ticks(), over-1, over, over+1) {
					fresh := counts(then) < over
					if scar.Has(noted, age, then, a) != fresh {
						t.Fatal(l, now, age, then)
					}
					if worst, ok := scar.Worst(noted, age, then); fresh && (!ok || worst != a) {
						t.Fatal(l, now, age, then, worst)
					}
				}
			}
		}
	}
}

// P12.4: notes of unlike addresses at one tick leave the same scars in whatever order, but for the order.
func TestWhateverOrder(t *testing.T) {
	all := []api.Addr{a, b, c, to(1)}
	often := func(l []api.Scar) map[api.Scar]int {
		each := map[api.Scar]int{}
		for _, s := range l {
			each[s]++
		}
		return each
	}
	for _, l := range [][]api.Scar{nil, at(3, a), join(at(4, b), at(2, a), at(3, c)), at(1, many(5, 33)...)} {
		want := often(scar.Note(l, 5, all...))
		for _, some := range lists(4, all...) {
			if len(some) < 4 || slices.ContainsFunc(all, func(one api.Addr) bool { return !slices.Contains(some, one) }) {
				continue
			}
			together, apart := scar.Note(l, 5, some...), l
			for _, next := range some {
				apart = scar.Note(apart, 5, next)
			}
			if !maps.Equal(often(together), want) || !alike(apart, together) {
				t.Fatal(l, some, together, apart)
			}
		}
	}
}

// P12.1, P12.2: behind Note each address has just one scar, if it had no more ahead; behind Heal none.
func TestOneEach(t *testing.T) {
	var l []api.Scar
	for n, some := range lists(3, a, b, c, to(1)) {
		l = scar.Note(l, n, some...)
		for _, s := range l {
			if healed := scar.Heal(l, s.Addr); len(healed) != len(l)-1 || scar.Has(healed, mostInt, 0, s.Addr) {
				t.Fatal(l, healed)
			}
		}
		if !scar.Has(l, 1, n, some...) {
			t.Fatal(l, some)
		}
	}
}

// R4: what is handed in stays as it was, spare room behind it included.
func TestNothingChanged(t *testing.T) {
	spare := api.Scar{Addr: to(77), At: 77}
	for _, of := range lists(3, a, b, c) {
		for _, some := range lists(2, a, b, to(1)) {
			whole := append(at(5, of...), spare, spare, spare, spare)
			wholeSome := append(slices.Clone(some), to(77), to(77))
			l, told := whole[:len(of)], wholeSome[:len(some)]
			was, wasSome := slices.Clone(whole), slices.Clone(wholeSome)
			scar.Note(l, 9, told...)
			scar.Heal(l, told...)
			scar.Fresh(l, 3, 6)
			scar.Has(l, 3, 6, told...)
			scar.Worst(l, 3, 6)
			scar.Same(l, l[:0])
			if !alike(whole, was) || !slices.Equal(wholeSome, wasSome) {
				t.Fatal(of, some, whole, wholeSome)
			}
		}
	}
	great := append(at(5, many(0, 40)...), spare, spare)
	was := slices.Clone(great)
	scar.Note(great[:40], 9, many(30, 45)...)
	if !alike(great, was) {
		t.Error(great)
	}
}

// R4: what is answered is new memory, and so are two answers: what is done to one is not seen in another, or in what was handed in.
func TestMemoryOfItsOwn(t *testing.T) {
	scratch := func(l []api.Scar) {
		l = l[:cap(l)]
		for n := range l {
			l[n] = api.Scar{At: -1}
		}
	}
	for _, of := range [][]api.Addr{nil, {a}, {a, b, c}, many(0, 32), many(0, 40)} {
		l := slices.Grow(at(5, of...), 9)
		was := slices.Clone(l)
		for i, call := range []func() []api.Scar{
			func() []api.Scar { return scar.Note(l, 9) },
			func() []api.Scar { return scar.Note(l, 9, a, to(3)) },
			func() []api.Scar { return scar.Note(nil, 9, b, a) },
			func() []api.Scar { return scar.Heal(l) },
			func() []api.Scar { return scar.Heal(l, a, to(39)) },
			func() []api.Scar { return scar.Fresh(l, 3, 6) },
			func() []api.Scar { return scar.Fresh(l, 3, 9) },
		} {
			first, second := call(), call()
			want := slices.Clone(first)
			scratch(second)
			if !alike(first, want) || !alike(l, was) {
				t.Fatal(i, of, first, l)
			}
			scratch(first)
			if !alike(call(), want) || !alike(l, was) {
				t.Fatal(i, of, l)
			}
		}
	}
}

// R3: the same again, whatever was asked between.
func TestAgain(t *testing.T) {
	l := join(at(9, a), at(3, b), at(7, c))
	noted, healed, fresh := scar.Note(l, 8, b, to(1)), scar.Heal(l, a), scar.Fresh(l, 3, 6)
	worst, ok := scar.Worst(l, 3, 6)
	scar.Note(noted, 0, a, b, c)
	scar.Heal(noted, a, b, c, to(1))
	scar.Fresh(noted, 0, mostInt)
	one, yes := scar.Worst(l, 3, 6)
	if !alike(scar.Note(l, 8, b, to(1)), noted) || !alike(scar.Heal(l, a), healed) || !alike(scar.Fresh(l, 3, 6), fresh) || one != worst || yes != ok {
		t.Error("not the same again")
	}
}

// R1: long lists end.
func TestLong(t *testing.T) {
	all := many(0, 100000)
	l := at(5, all...)
	if got := scar.Note(l, 9, all...); !alike(got, at(9, all[len(all)-most:]...)) {
		t.Error("note")
	}
	if got := scar.Note(nil, 9, append(slices.Clone(all), all...)...); !alike(got, at(9, all[len(all)-most:]...)) {
		t.Error("note twice")
	}
	if got := scar.Heal(l, all[1:]...); !alike(got, l[:1]) {
		t.Error("heal")
	}
	if !scar.Has(l, 1, 5, all...) || scar.Has(l, 1, 5, append(slices.Clone(all), a)...) {
		t.Error("has")
	}
	if worst, ok := scar.Worst(l, 1, 5); !ok || worst != all[len(all)-1] {
		t.Error(worst, ok)
	}
	if got := scar.Fresh(l, 1, 5); !scar.Same(got, l) {
		t.Error("fresh")
	}
}
