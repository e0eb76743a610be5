package line_test

import (
	"slices"
	"testing"

	"switchboard/line"
)

const (
	mostInt  = int(^uint(0) >> 1)
	leastInt = -mostInt - 1

	// What stands in the room behind a row that is handed in.
	guard = 424242
)

// rows are all rows of up to length of the numbers, the short ones first.
func rows(length int, numbers ...int) [][]int {
	all := [][]int{nil}
	from := 0
	for range length {
		to := len(all)
		for _, l := range all[from:to] {
			for _, n := range numbers {
				all = append(all, append(slices.Clone(l), n))
			}
		}
		from = to
	}
	return all
}

// roomy answers l with room behind it, and all of what it stands in.
func roomy(l []int) (row, whole []int) {
	whole = append(slices.Clone(l), guard, guard, guard)
	return whole[:len(l)], whole
}

// spoil writes over all of l, the room behind it, and what is pushed on to it.
func spoil(l []int) {
	for _, all := range [][]int{l[:cap(l)], append(l, 777, 778)} {
		for i := range all {
			all[i] = -999
		}
	}
}

// without says once more, the long way, what Drop leaves of l: number by number, each looked for from the front on.
func without(l []int, n ...int) (rest []int, gone int) {
	rest = slices.Clone(l)
	for _, number := range n {
		for i := range rest {
			if rest[i] == number {
				rest = slices.Delete(rest, i, i+1)
				gone++
				break
			}
		}
	}
	return rest, gone
}

// same says once more whether a and b are the same numbers in the same order.
func same(a, b []int) bool {
	if len(a) != len(b) {
		return false
	}
	for i := range a {
		if a[i] != b[i] {
			return false
		}
	}
	return true
}

// P4.1: the row, and what is pushed behind it.
func TestPush(t *testing.T) {
	for _, c := range []struct{ l, n, want []int }{
		{[]int{1, 2}, []int{3}, []int{1, 2, 3}},
		{nil, nil, nil}, {[]int{}, nil, nil}, {nil, []int{}, nil}, {[]int{}, []int{}, nil},
		{nil, []int{7}, []int{7}}, {[]int{}, []int{7}, []int{7}}, {nil, []int{7, 8, 9}, []int{7, 8, 9}},
		{[]int{7}, nil, []int{7}}, {[]int{7}, []int{}, []int{7}}, {[]int{7}, []int{7}, []int{7, 7}}, {[]int{7}, []int{0}, []int{7, 0}},
		{[]int{1, 2, 3}, nil, []int{1, 2, 3}}, {[]int{3, 2, 1}, []int{4, 6, 5}, []int{3, 2, 1, 4, 6, 5}}, {[]int{1, 1}, []int{1, 1}, []int{1, 1, 1, 1}},
		{[]int{leastInt, mostInt}, []int{mostInt, leastInt, 0, -1}, []int{leastInt, mostInt, mostInt, leastInt, 0, -1}},
	} {
		if got := line.Push(c.l, c.n...); !same(got, c.want) {
			t.Errorf("%v, %v: %v, not %v", c.l, c.n, got, c.want)
		}
	}
}

// P4.1: all short rows, pushed at once and one by one.
func TestPushOfAll(t *testing.T) {
	all := rows(3, leastInt, 0, mostInt)
	for _, l := range all {
		for _, n := range all {
			want := make([]int, len(l)+len(n))
			copy(want, l)
			copy(want[len(l):], n)
			if got := line.Push(l, n...); !same(got, want) {
				t.Errorf("%v, %v: %v", l, n, got)
			}
			step := l
			for _, number := range n {
				step = line.Push(step, number)
			}
			if !same(step, want) {
				t.Errorf("%v, %v one by one: %v", l, n, step)
			}
		}
	}
}

// P4.1: the number at either end, and the row without it.
func TestEnds(t *testing.T) {
	for _, c := range []struct {
		l      []int
		front  int
		behind []int
		back   int
		ahead  []int
		ok     bool
	}{
		{nil, 0, nil, 0, nil, false}, {[]int{}, 0, nil, 0, nil, false}, {[]int{1, 2}[:0], 0, nil, 0, nil, false},
		{[]int{1, 2, 3}, 1, []int{2, 3}, 3, []int{1, 2}, true},
		{[]int{7}, 7, nil, 7, nil, true}, {[]int{0}, 0, nil, 0, nil, true}, {[]int{-1}, -1, nil, -1, nil, true},
		{[]int{7, 8}, 7, []int{8}, 8, []int{7}, true}, {[]int{7, 7}, 7, []int{7}, 7, []int{7}, true}, {[]int{0, 0, 0}, 0, []int{0, 0}, 0, []int{0, 0}, true},
		{[]int{5, 1, 9, 1, 4}, 5, []int{1, 9, 1, 4}, 4, []int{5, 1, 9, 1}, true},
		{[]int{leastInt, 0, mostInt}, leastInt, []int{0, mostInt}, mostInt, []int{leastInt, 0}, true}, {[]int{mostInt, leastInt}, mostInt, []int{leastInt}, leastInt, []int{mostInt}, true},
	} {
		if n, rest, ok := line.Front(c.l); n != c.front || !same(rest, c.behind) || ok != c.ok {
			t.Errorf("front of %v: %d, %v, %t", c.l, n, rest, ok)
		}
		if n, rest, ok := line.Back(c.l); n != c.back || !same(rest, c.ahead) || ok != c.ok {
			t.Errorf("back of %v: %d, %v, %t", c.l, n, rest, ok)
		}
	}
}

// P4.1: what stands in the room behind a row is not in it.
func TestEndsOfPieces(t *testing.T) {
	whole := []int{1, 2, 3, 4, 5}
	if n, rest, ok := line.Front(whole[1:3]); n != 2 || !same(rest, []int{3}) || !ok {
		t.Error(n, rest, ok)
	}
	if n, rest, ok := line.Back(whole[1:3]); n != 3 || !same(rest, []int{2}) || !ok {
		t.Error(n, rest, ok)
	}
	if got := line.Push(whole[1:3], 9); !same(got, []int{2, 3, 9}) || !same(whole, []int{1, 2, 3, 4, 5}) {
		t.Error(got, whole)
	}
}

// P4.2: where a number stands first.
func TestPlace(t *testing.T) {
	for _, c := range []struct {
		l       []int
		n, want int
	}{
		{nil, 0, -1}, {[]int{}, 0, -1}, {nil, mostInt, -1}, {[]int{1, 2}[:1], 2, -1},
		{[]int{7}, 7, 0}, {[]int{7}, 8, -1}, {[]int{0}, 0, 0}, {[]int{7}, 0, -1}, {[]int{7}, -7, -1},
		{[]int{5, 6, 7}, 5, 0}, {[]int{5, 6, 7}, 6, 1}, {[]int{5, 6, 7}, 7, 2}, {[]int{5, 6, 7}, 8, -1}, {[]int{5, 6, 7}, 4, -1},
		{[]int{7, 3, 3}, 3, 1}, {[]int{3, 7, 3}, 3, 0}, {[]int{3, 3, 3}, 3, 0}, {[]int{9, 8, 3, 9, 3}, 3, 2}, {[]int{-1, 0, 1}, -1, 0}, {[]int{0, 1, -1}, -1, 2},
		{[]int{mostInt, leastInt}, leastInt, 1}, {[]int{mostInt, leastInt}, mostInt, 0}, {[]int{mostInt, leastInt}, -1, -1}, {[]int{mostInt - 1, leastInt + 1}, mostInt, -1}, {[]int{mostInt - 1, leastInt + 1}, leastInt, -1},
	} {
		if got := line.Place(c.l, c.n); got != c.want {
			t.Errorf("%v, %d: %d, not %d", c.l, c.n, got, c.want)
		}
	}
	for _, l := range rows(4, leastInt, 0, mostInt) {
		for _, n := range []int{leastInt, -1, 0, mostInt} {
			want := -1
			for i := len(l) - 1; i >= 0; i-- {
				if l[i] == n {
					want = i
				}
			}
			if got := line.Place(l, n); got != want {
				t.Errorf("%v, %d: %d, not %d", l, n, got, want)
			}
		}
	}
}

// P4.2: what goes, how much of it, and what is left.
func TestDrop(t *testing.T) {
	for _, c := range []struct {
		l, n, rest []int
		gone       int
	}{
		{[]int{1, 2, 1}, []int{1, 9}, []int{2, 1}, 1},
		{nil, nil, nil, 0}, {[]int{}, []int{}, nil, 0}, {nil, []int{0}, nil, 0}, {[]int{}, []int{1, 2}, nil, 0},
		{[]int{7}, nil, []int{7}, 0}, {[]int{7}, []int{}, []int{7}, 0}, {[]int{7}, []int{8}, []int{7}, 0}, {[]int{7}, []int{7}, nil, 1}, {[]int{7}, []int{7, 7}, nil, 1}, {[]int{0}, []int{0}, nil, 1}, {[]int{7}, []int{0}, []int{7}, 0},

		// What stands there twice, and goes once, twice, is told once more.
		{[]int{3, 5, 3, 4}, []int{3}, []int{5, 3, 4}, 1}, {[]int{3, 5, 3, 4}, []int{3, 3}, []int{5, 4}, 2}, {[]int{3, 5, 3, 4}, []int{3, 3, 3}, []int{5, 4}, 2}, {[]int{4, 3, 3}, []int{3}, []int{4, 3}, 1},
		{[]int{3, 3}, []int{3}, []int{3}, 1}, {[]int{3, 3}, []int{3, 3}, nil, 2}, {[]int{3, 3}, []int{3, 3, 3}, nil, 2}, {[]int{3, 3, 3}, []int{3, 3}, []int{3}, 2},

		// Whatever the order in which they are told.
		{[]int{1, 2, 3, 4}, []int{1}, []int{2, 3, 4}, 1}, {[]int{1, 2, 3, 4}, []int{4}, []int{1, 2, 3}, 1}, {[]int{1, 2, 3, 4}, []int{2, 3}, []int{1, 4}, 2}, {[]int{1, 2, 3, 4}, []int{3, 2}, []int{1, 4}, 2}, {[]int{1, 2, 3, 4}, []int{4, 1}, []int{2, 3}, 2},
		{[]int{1, 2, 3, 4}, []int{4, 3, 2, 1}, nil, 4}, {[]int{1, 2, 3, 4}, []int{1, 2, 3, 4}, nil, 4}, {[]int{1, 2, 3, 4}, []int{9, 4, 9, 1, 9}, []int{2, 3}, 2}, {[]int{1, 2, 3, 4}, []int{9, 8, 7}, []int{1, 2, 3, 4}, 0},
		{[]int{1, 2, 1, 2, 1}, []int{2, 1}, []int{1, 2, 1}, 2}, {[]int{1, 2, 1, 2, 1}, []int{1, 2, 1}, []int{2, 1}, 3}, {[]int{2, 1, 1, 2}, []int{1, 2}, []int{1, 2}, 2},

		// What is told more often than it stands there takes nothing else along.
		{[]int{5, 6, 7}, []int{5, 5, 6}, []int{7}, 2}, {[]int{5, 6, 5, 7}, []int{5, 5, 5, 5}, []int{6, 7}, 2}, {[]int{5, 6, 7}, []int{9, 9, 9, 7}, []int{5, 6}, 1},

		{[]int{leastInt, 0, mostInt, leastInt}, []int{leastInt}, []int{0, mostInt, leastInt}, 1}, {[]int{leastInt, 0, mostInt}, []int{mostInt, leastInt}, []int{0}, 2}, {[]int{mostInt - 1, leastInt + 1}, []int{mostInt, leastInt}, []int{mostInt - 1, leastInt + 1}, 0}, {[]int{-1, 1}, []int{1}, []int{-1}, 1}, {[]int{1, -1}, []int{-1}, []int{1}, 1},
	} {
		if rest, gone := line.Drop(c.l, c.n...); !same(rest, c.rest) || gone != c.gone {
			t.Errorf("%v, %v: %v, %d, not %v, %d", c.l, c.n, rest, gone, c.rest, c.gone)
		}
	}
}

// P4.2: all short rows, from which all short rows are dropped.
func TestDropOfAll(t *testing.T) {
	all := rows(5, leastInt, 0, mostInt)
	for _, l := range all {
		for _, n := range all {
			rest, gone := line.Drop(l, n...)
			if want, many := without(l, n...); !same(rest, want) || gone != many {
				t.Errorf("%v, %v: %v, %d, not %v, %d", l, n, rest, gone, want, many)
			}
		}
	}
}

// P4.2: the row from its back on.
func TestTurned(t *testing.T) {
	for _, c := range []struct{ l, want []int }{
		{nil, nil}, {[]int{}, nil}, {[]int{7}, []int{7}}, {[]int{7, 8}, []int{8, 7}}, {[]int{7, 7}, []int{7, 7}},
		{[]int{1, 2, 3}, []int{3, 2, 1}}, {[]int{1, 2, 3, 4}, []int{4, 3, 2, 1}}, {[]int{1, 1, 2}, []int{2, 1, 1}}, {[]int{leastInt, 0, mostInt}, []int{mostInt, 0, leastInt}},
	} {
		if got := line.Turned(c.l); !same(got, c.want) {
			t.Errorf("%v: %v, not %v", c.l, got, c.want)
		}
	}
	for _, l := range rows(6, leastInt, 0, mostInt) {
		got := line.Turned(l)
		if len(got) != len(l) {
			t.Fatalf("%v: %v", l, got)
		}
		for i, n := range l {
			if got[len(l)-1-i] != n {
				t.Errorf("%v: %v", l, got)
			}
		}
	}
}

// P4.2: rows that differ in the first number, in the last, in one between, in their order, in length alone.
func TestSame(t *testing.T) {
	for _, c := range []struct {
		a, b []int
		want bool
	}{
		{nil, nil, true}, {nil, []int{}, true}, {[]int{}, []int{}, true}, {nil, []int{0}, false}, {[]int{}, []int{7}, false}, {nil, []int{1}[:0], true},
		{[]int{7}, []int{7}, true}, {[]int{7}, []int{8}, false}, {[]int{0}, []int{0}, true}, {[]int{7}, []int{7, 7}, false}, {[]int{7}, []int{-7}, false},
		{[]int{1, 2, 3}, []int{1, 2, 3}, true}, {[]int{1, 2, 3}, []int{9, 2, 3}, false}, {[]int{1, 2, 3}, []int{1, 2, 9}, false}, {[]int{1, 2, 3}, []int{1, 9, 3}, false},
		{[]int{1, 2, 3}, []int{1, 2}, false}, {[]int{1, 2, 3}, []int{2, 3}, false}, {[]int{1, 2, 3}, []int{1, 2, 3, 0}, false}, {[]int{1, 2, 3}, []int{0, 1, 2, 3}, false}, {[]int{1, 2, 3}, []int{1, 2, 3, 3}, false},
		{[]int{1, 2, 3}, []int{3, 2, 1}, false}, {[]int{1, 2, 3}, []int{2, 1, 3}, false}, {[]int{1, 1, 2}, []int{1, 2, 2}, false}, {[]int{1, 2, 1}, []int{2, 1, 1}, false},
		{[]int{leastInt, mostInt}, []int{leastInt, mostInt}, true}, {[]int{leastInt, mostInt}, []int{mostInt, leastInt}, false}, {[]int{mostInt}, []int{-1}, false}, {[]int{mostInt}, []int{mostInt - 1}, false}, {[]int{leastInt}, []int{leastInt + 1}, false},
	} {
		if got := line.Same(c.a, c.b); got != c.want {
			t.Errorf("%v, %v: %t", c.a, c.b, got)
		}
		if got := line.Same(c.b, c.a); got != c.want {
			t.Errorf("%v, %v: %t", c.b, c.a, got)
		}
	}
	all := rows(4, leastInt, 0, mostInt)
	for i, a := range all {
		for j, b := range all {
			if got := line.Same(a, b); got != (i == j) {
				t.Errorf("%v, %v: %t", a, b, got)
			}
		}
	}
	l := []int{1, 2, 3}
	if !line.Same(l, l) || line.Same(l, l[:2]) || line.Same(l, l[1:]) || !line.Same(l[:0], l[3:]) {
		t.Error("a row and its pieces")
	}
}

// P4.3: who is pushed first comes first from the front, and last from the back.
func TestOrderOfPushed(t *testing.T) {
	for _, n := range rows(5, leastInt, 0, mostInt) {
		var l []int
		for _, number := range n {
			l = line.Push(l, number)
		}
		rest := l
		for i := range n {
			number, left, ok := line.Front(rest)
			if number != n[i] || !ok {
				t.Errorf("%v from the front: %d, %t at %d", n, number, ok, i)
			}
			rest = left
		}
		if _, _, ok := line.Front(rest); ok || len(rest) != 0 {
			t.Errorf("%v from the front: left %v", n, rest)
		}
		rest = l
		for i := range n {
			number, left, ok := line.Back(rest)
			if number != n[len(n)-1-i] || !ok {
				t.Errorf("%v from the back: %d, %t at %d", n, number, ok, i)
			}
			rest = left
		}
		if _, _, ok := line.Back(rest); ok || len(rest) != 0 {
			t.Errorf("%v from the back: left %v", n, rest)
		}
	}
}

// P4.3: a row that is turned twice is as it was; turned once, its ends are the other way about.
func TestTurnedTwice(t *testing.T) {
	for _, l := range rows(6, leastInt, 0, mostInt) {
		turned := line.Turned(l)
		if twice := line.Turned(turned); !same(twice, l) || !line.Same(twice, l) {
			t.Errorf("%v: %v", l, twice)
		}
		front, behind, ok := line.Front(turned)
		back, ahead, has := line.Back(l)
		if front != back || ok != has || !line.Same(behind, line.Turned(ahead)) {
			t.Errorf("%v: %d, %v, not %d, %v", l, front, behind, back, ahead)
		}
	}
}

// P4.3: dropping leaves the order of all others.
func TestOrderOfTheLeft(t *testing.T) {
	for _, l := range rows(5, 1, 2, 3) {
		for _, n := range rows(2, 1, 2, 3, 4) {
			rest, gone := line.Drop(l, n...)
			if len(rest)+gone != len(l) || gone > len(n) {
				t.Errorf("%v, %v: %v, %d", l, n, rest, gone)
			}
			// What is left stands in l in the same order.
			i := 0
			for _, number := range l {
				if i < len(rest) && rest[i] == number {
					i++
				}
			}
			if i < len(rest) {
				t.Errorf("%v, %v: %v", l, n, rest)
			}
			// Of those that nobody told all are left.
			other := func(number int) bool { return !slices.Contains(n, number) }
			if !same(pick(l, other), pick(rest, other)) {
				t.Errorf("%v, %v: %v", l, n, rest)
			}
		}
	}
}

// pick answers those of l that are good.
func pick(l []int, good func(n int) bool) []int {
	var picked []int
	for _, n := range l {
		if good(n) {
			picked = append(picked, n)
		}
	}
	return picked
}

// makers are the calls that answer a row made of l, and of n where they take more.
func makers(n []int) map[string]func(l []int) []int {
	return map[string]func(l []int) []int{
		"push":         func(l []int) []int { return line.Push(l, n...) },
		"push nothing": func(l []int) []int { return line.Push(l) },
		"front":        func(l []int) []int { _, rest, _ := line.Front(l); return rest },
		"back":         func(l []int) []int { _, rest, _ := line.Back(l); return rest },
		"drop":         func(l []int) []int { rest, _ := line.Drop(l, n...); return rest },
		"drop nothing": func(l []int) []int { rest, _ := line.Drop(l); return rest },
		"turned":       line.Turned,
	}
}

// P4.3, and R4: what comes of a row is in memory of its own; what was handed in, the room behind it included, stays as it is.
func TestOwnMemory(t *testing.T) {
	for _, numbers := range rows(4, 1, 2, 3) {
		for _, more := range rows(2, 1, 9) {
			l, whole := roomy(numbers)
			n, all := roomy(more)
			for name, of := range makers(n) {
				first, second := of(l), of(l)
				want := slices.Clone(second)
				spoil(first)
				if !same(second, want) {
					t.Errorf("%s of %v, %v: another answer became %v", name, numbers, more, second)
				}
				if !same(of(l), want) {
					t.Errorf("%s of %v, %v: another time not the same", name, numbers, more)
				}
				guarded := []int{guard, guard, guard}
				if !same(whole, slices.Concat(numbers, guarded)) || !same(all, slices.Concat(more, guarded)) {
					t.Fatalf("%s of %v, %v: handed in are now %v, %v", name, numbers, more, whole, all)
				}
			}
			line.Place(l, 1)
			line.Same(l, n)
			if !same(l, numbers) || !same(n, more) {
				t.Fatalf("%v, %v: handed in are now %v, %v", numbers, more, l, n)
			}
		}
	}
}

// R4: what was handed in is not kept: changed later on, it changes no answer.
func TestNotKept(t *testing.T) {
	for _, numbers := range rows(4, 1, 2, 3) {
		for _, more := range rows(2, 1, 9) {
			for name := range makers(nil) {
				l, whole := roomy(numbers)
				n, all := roomy(more)
				got := makers(n)[name](l)
				want := slices.Clone(got)
				spoil(whole)
				spoil(all)
				if !same(got, want) {
					t.Errorf("%s of %v, %v: %v became %v", name, numbers, more, want, got)
				}
			}
		}
	}
}

// P4.3: two that are pushed on to one row, by a call or by append, do not meet.
func TestPushedOnTo(t *testing.T) {
	for _, numbers := range rows(4, 1, 2, 3) {
		for name, of := range makers([]int{2, 8}) {
			row := of(numbers)
			want := slices.Clone(row)
			five, six := line.Push(row, 5), line.Push(row, 6, 6)
			seven, eight := append(row, 7), append(row, 8)
			if !same(five, append(slices.Clone(want), 5)) || !same(six, append(slices.Clone(want), 6, 6)) || !same(seven, append(slices.Clone(want), 7)) || !same(eight, append(slices.Clone(want), 8)) {
				t.Errorf("%s of %v: %v, %v, %v, %v", name, numbers, five, six, seven, eight)
			}
			spoil(five)
			if !same(row, want) {
				t.Errorf("%s of %v: %v became %v", name, numbers, want, row)
			}
		}
	}
}

// P4.1, P4.2: long rows, of which as many numbers go as there are.
func TestLongRows(t *testing.T) {
	const many = 1 << 17
	var l []int
	for n := range many {
		l = append(l, n)
	}
	turned := line.Turned(l)
	if turned[0] != many-1 || turned[many-1] != 0 || !line.Same(line.Turned(turned), l) {
		t.Error("turned")
	}
	if rest, gone := line.Drop(l, turned...); len(rest) != 0 || gone != many {
		t.Error("dropped all", len(rest), gone)
	}
	if rest, gone := line.Drop(l, line.Push(turned[:many-1], many)...); !same(rest, []int{0}) || gone != many-1 {
		t.Error("dropped all but one", len(rest), gone)
	}
	if rest, gone := line.Drop(slices.Repeat([]int{7}, many), slices.Repeat([]int{7}, many/2)...); len(rest) != many/2 || gone != many/2 {
		t.Error("dropped one half", len(rest), gone)
	}
	if both := line.Push(l, turned...); len(both) != 2*many || both[many-1] != many-1 || both[many] != many-1 || both[2*many-1] != 0 {
		t.Error("pushed")
	}
	if line.Place(l, many-1) != many-1 || line.Place(l, many) != -1 {
		t.Error("place")
	}
	if line.Same(l, line.Push(l[:many-1], 0)) || line.Same(l, l[:many-1]) {
		t.Error("same")
	}
}
