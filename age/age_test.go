package age_test

import (
	"math/big"
	"slices"
	"testing"

	"switchboard/age"
)

const (
	mostInt  = int(^uint(0) >> 1)
	leastInt = -mostInt - 1

	// The greatest tick, written out, so that the tests do not hang on what they test against.
	last = 1073741824
)

// clamps are numbers, and the ticks that they count as.
func clamps() map[int]int {
	return map[int]int{
		leastInt: 0, leastInt + 1: 0, -last - 1: 0, -last: 0, -1000: 0, -2: 0, -1: 0,
		0: 0, 1: 1, 2: 2, 3: 3, 1000: 1000, last / 2: last / 2, last - 2: last - 2, last - 1: last - 1, last: last,
		last + 1: last, last + 2: last, 2*last - 1: last, mostInt - 1: last, mostInt: last,
	}
}

// numbers are those that matter wherever a time or a length is handed in, rising.
func numbers() []int {
	var l []int
	for n := range clamps() {
		l = append(l, n)
	}
	slices.Sort(l)
	return l
}

// mixed are the numbers in an order in which neither the least nor the greatest stands at an end.
func mixed() []int {
	var l []int
	all := numbers()
	for i := range all {
		l = append(l, all[(i*8+5)%len(all)])
	}
	return l
}

// clamp says once more, in numbers that cannot wrap round, which tick n counts as.
func clamp(n *big.Int) *big.Int {
	switch most := big.NewInt(last); {
	case n.Sign() < 0:
		return new(big.Int)
	case n.Cmp(most) > 0:
		return most
	}
	return n
}

// later says once more which tick is all of n later than t: all of it is added up ahead of being cut.
func later(t int, n ...int) int {
	sum := clamp(big.NewInt(int64(t)))
	for _, length := range n {
		sum = new(big.Int).Add(sum, clamp(big.NewInt(int64(length))))
	}
	return int(clamp(sum).Int64())
}

// P3.1: which tick a number counts as.
func TestClamp(t *testing.T) {
	for n, want := range clamps() {
		if got := age.Clamp(n); got != want {
			t.Errorf("%d: %d, not %d", n, got, want)
		}
		if got := age.Clamp(want); got != want {
			t.Errorf("%d: a tick counts as %d", want, got)
		}
	}
	for n := -300; n <= 300; n++ {
		if got := age.Clamp(n); got != max(n, 0) {
			t.Errorf("%d: %d", n, got)
		}
		if got := age.Clamp(last + n); got != last+min(n, 0) {
			t.Errorf("%d: %d", last+n, got)
		}
	}
}

// P3.1: lengths, one behind the other, and where the last tick is reached.
func TestLater(t *testing.T) {
	for _, c := range []struct {
		t    int
		n    []int
		want int
	}{
		{5, []int{3, 2}, 10}, {5, []int{3}, 8}, {5, nil, 5}, {5, []int{}, 5}, {5, []int{0}, 5}, {5, []int{0, 0, 3}, 8},
		{0, nil, 0}, {0, []int{0}, 0}, {0, []int{1}, 1}, {0, []int{1, 1, 1, 1}, 4}, {7, []int{1, 2, 3, 4, 5}, 22},
		{last, nil, last}, {last, []int{0}, last}, {last, []int{1}, last}, {last, []int{last}, last},

		// What reaches the last tick just so, stops ahead of it, goes past it.
		{0, []int{last}, last}, {1, []int{last - 1}, last}, {last - 1, []int{1}, last}, {last - 3, []int{1, 2}, last}, {last / 2, []int{last / 2}, last},
		{0, []int{last - 1}, last - 1}, {1, []int{last - 2}, last - 1}, {last - 3, []int{1, 1}, last - 1}, {last / 2, []int{last/2 - 1}, last - 1},
		{1, []int{last}, last}, {2, []int{last - 1}, last}, {last - 1, []int{2}, last}, {last - 3, []int{2, 2}, last}, {last/2 + 1, []int{last / 2}, last},
		{last - 1, []int{1, 0, 0}, last}, {last - 1, []int{1, 5, 0}, last}, {last - 1, []int{0, 0, 1}, last},

		// What is below 0 counts as 0, what is above the last tick as that, each by itself.
		{-1, nil, 0}, {-1, []int{1}, 1}, {-5, []int{3, 2}, 5}, {leastInt, []int{4}, 4}, {leastInt, []int{mostInt}, last},
		{5, []int{-1}, 5}, {5, []int{-3, 2}, 7}, {5, []int{2, -3}, 7}, {5, []int{leastInt}, 5}, {5, []int{leastInt, 1, leastInt}, 6},
		{last, []int{-1}, last}, {last + 1, []int{-1}, last}, {last + 7, nil, last}, {mostInt, nil, last}, {mostInt, []int{leastInt}, last},
		{0, []int{last + 1}, last}, {0, []int{mostInt}, last}, {3, []int{last, leastInt}, last}, {3, []int{mostInt, -last}, last},

		// Sums that would wrap round.
		{mostInt, []int{1}, last}, {mostInt, []int{mostInt}, last}, {1, []int{mostInt}, last}, {last, []int{last, last}, last},
		{mostInt, []int{mostInt, 2}, last}, {0, []int{mostInt, mostInt, 2, 5}, last}, {2, []int{mostInt, mostInt}, last}, {leastInt, []int{-1}, 0}, {leastInt, []int{leastInt}, 0},
	} {
		if got := age.Later(c.t, c.n...); got != c.want {
			t.Errorf("%d, %v: %d, not %d", c.t, c.n, got, c.want)
		}
	}
}

// P3.1: all the numbers that matter, with none, one, two, three lengths.
func TestLaterOfAll(t *testing.T) {
	l := numbers()
	check := func(from int, n ...int) {
		if got, want := age.Later(from, n...), later(from, n...); got != want {
			t.Errorf("%d, %v: %d, not %d", from, n, got, want)
		}
	}
	for _, from := range l {
		check(from)
		check(from, l...)
		for _, a := range l {
			check(from, a)
			for _, b := range l {
				check(from, a, b)
				check(from, a, b, 1)
			}
		}
	}
}

// P3.1: very many lengths.
func TestLaterOfMany(t *testing.T) {
	many := slices.Repeat([]int{1, 0, -7}, 1<<18)
	if got := age.Later(3, many...); got != 1<<18+3 {
		t.Error(got)
	}
	if got := age.Later(last-1<<18, many...); got != last {
		t.Error(got)
	}
	if got := age.Later(last-1<<18-1, many...); got != last-1 {
		t.Error(got)
	}
	for _, n := range []int{1 << 12, last, mostInt, 1 << 62} {
		if got := age.Later(0, slices.Repeat([]int{n}, 1<<18)...); got != last {
			t.Errorf("%d: %d", n, got)
		}
	}
	if got := age.Later(9, slices.Repeat([]int{leastInt}, 1<<18)...); got != 9 {
		t.Error(got)
	}
}

// P3.2: how many ticks now is behind since.
func TestGone(t *testing.T) {
	for _, c := range []struct{ since, now, want int }{
		{0, 0, 0}, {0, 1, 1}, {3, 10, 7}, {9, 10, 1}, {10, 10, 0}, {11, 10, 0}, {10, 3, 0}, {1, 0, 0},
		{0, last, last}, {1, last, last - 1}, {last - 1, last, 1}, {last, last, 0}, {last, last - 1, 0}, {last, 0, 0}, {0, last - 1, last - 1},

		// What is no tick counts as one.
		{-1, 0, 0}, {-1, 5, 5}, {5, -1, 0}, {-9, -4, 0}, {-4, -9, 0}, {leastInt, 5, 5}, {leastInt, 0, 0}, {5, leastInt, 0}, {leastInt, leastInt, 0}, {leastInt, -1, 0},
		{0, last + 1, last}, {3, last + 9, last - 3}, {last + 9, 3, 0}, {last, last + 1, 0}, {last + 1, last, 0}, {last + 1, last + 9, 0}, {last - 1, mostInt, 1}, {mostInt, last - 1, 0},
		{leastInt, mostInt, last}, {-1, mostInt, last}, {mostInt, leastInt, 0}, {mostInt, mostInt, 0}, {-last, last, last},
	} {
		if got := age.Gone(c.since, c.now); got != c.want {
			t.Errorf("%d, %d: %d, not %d", c.since, c.now, got, c.want)
		}
	}
	for since, from := range clamps() {
		for now, to := range clamps() {
			if got := age.Gone(since, now); got != max(to-from, 0) {
				t.Errorf("%d, %d: %d", since, now, got)
			}
		}
	}
}

// P3.2: one tick ahead of where something gets old, at it, one behind.
func TestOld(t *testing.T) {
	for _, c := range []struct {
		since, age, now int
		want            bool
	}{
		{5, 3, 7, false}, {5, 3, 8, true}, {5, 3, 9, true}, {5, 3, 5, false}, {5, 3, 4, false}, {5, 3, 0, false}, {5, 3, last, true},
		{5, 0, 4, false}, {5, 0, 5, true}, {5, 0, 6, true}, {5, 1, 5, false}, {5, 1, 6, true}, {0, 0, 0, true}, {0, 1, 0, false}, {0, 1, 1, true},

		// Nothing is behind the last tick, so whatever gets old past it is old at it.
		{0, last, last - 1, false}, {0, last, last, true}, {0, last - 1, last - 2, false}, {0, last - 1, last - 1, true},
		{1, last, last - 1, false}, {1, last, last, true}, {last, 0, last, true}, {last, 1, last, true}, {last, last, last, true}, {last, last, last - 1, false}, {last, 0, last - 1, false},
		{last - 3, 9, last - 1, false}, {last - 3, 9, last, true}, {last - 3, 2, last - 1, true}, {last - 3, 2, last - 2, false},

		// What is no tick counts as one.
		{-5, 3, 2, false}, {-5, 3, 3, true}, {leastInt, 3, 2, false}, {leastInt, 3, 3, true}, {leastInt, 0, leastInt, true}, {leastInt, 1, leastInt, false}, {-9, -9, -10, true},
		{5, -3, 4, false}, {5, -3, 5, true}, {5, leastInt, 4, false}, {5, leastInt, 5, true}, {5, leastInt, 6, true},
		{5, 3, -1, false}, {5, 3, leastInt, false}, {0, 0, -1, true}, {0, 0, leastInt, true}, {0, 1, leastInt, false}, {1, 0, leastInt, false},
		{last + 9, 0, last, true}, {last + 9, 0, last - 1, false}, {mostInt, 0, last, true}, {mostInt, mostInt, last, true}, {mostInt, mostInt, mostInt, true}, {mostInt, mostInt, last - 1, false}, {mostInt, leastInt, last - 1, false},
		{0, mostInt, last, true}, {0, mostInt, last - 1, false}, {1, mostInt, 0, false}, {1, mostInt, leastInt, false}, {5, mostInt, 6, false}, {last, last + 1, mostInt, true}, {0, last, mostInt, true}, {5, 3, mostInt, true},
	} {
		if got := age.Old(c.since, c.age, c.now); got != c.want {
			t.Errorf("%d, %d, %d: %t", c.since, c.age, c.now, got)
		}
	}
}

// P3.2: for all the numbers that matter, old from just that tick on.
func TestOldIsBehindLater(t *testing.T) {
	l := numbers()
	for _, since := range l {
		for _, length := range l {
			from := later(since, length)
			for now, tick := range clamps() {
				if got := age.Old(since, length, now); got != (tick >= from) {
					t.Errorf("%d, %d, %d: %t", since, length, now, got)
				}
			}
			if from > 0 && age.Old(since, length, from-1) || !age.Old(since, length, from) || !age.Old(since, length, from+1) {
				t.Errorf("%d, %d: not old from %d on", since, length, from)
			}
		}
	}
}

// P3.3: the least tick, and the first of its places.
func TestFirst(t *testing.T) {
	for _, c := range []struct {
		l     []int
		at, t int
	}{
		{nil, -1, 0}, {[]int{}, -1, 0},
		{[]int{0}, 0, 0}, {[]int{7}, 0, 7}, {[]int{last}, 0, last}, {[]int{last - 1}, 0, last - 1},
		{[]int{7, 3, 3}, 1, 3}, {[]int{3, 7, 3}, 0, 3}, {[]int{7, 7, 3}, 2, 3}, {[]int{3, 3, 3}, 0, 3}, {[]int{9, 7, 5, 3, 1}, 4, 1}, {[]int{1, 3, 5}, 0, 1}, {[]int{2, 1, 3, 1, 2, 1}, 1, 1},
		{[]int{5, 0, 3}, 1, 0}, {[]int{5, 3, 0}, 2, 0}, {[]int{0, 0}, 0, 0}, {[]int{1, 0, 0}, 1, 0}, {[]int{0, 1, 0}, 0, 0}, {[]int{1, 0, -1}, 1, 0},
		{[]int{last, last}, 0, last}, {[]int{last, last - 1}, 1, last - 1}, {[]int{last - 1, last}, 0, last - 1},

		// Numbers that count as one tick are equal ones, so the first one counts.
		{[]int{-1}, 0, 0}, {[]int{leastInt}, 0, 0}, {[]int{last + 1}, 0, last}, {[]int{mostInt}, 0, last},
		{[]int{0, -1}, 0, 0}, {[]int{-1, 0}, 0, 0}, {[]int{-1, -9}, 0, 0}, {[]int{-9, -1}, 0, 0}, {[]int{4, -1, leastInt, 0}, 1, 0}, {[]int{leastInt, mostInt, leastInt}, 0, 0}, {[]int{mostInt, leastInt}, 1, 0},
		{[]int{mostInt, last}, 0, last}, {[]int{last, mostInt}, 0, last}, {[]int{last + 2, last + 1, last}, 0, last}, {[]int{mostInt, last + 1, last - 1, last - 1}, 2, last - 1}, {[]int{mostInt, 5}, 1, 5},
	} {
		if at, tick := age.First(c.l...); at != c.at || tick != c.t {
			t.Errorf("%v: %d, %d, not %d, %d", c.l, at, tick, c.at, c.t)
		}
	}
}

// first says once more, the long way, which stands first: the one that is the least of all, and has no equal ahead of it.
func first(l []int) (at, tick int) {
	for i, n := range l {
		here := later(n)
		if !slices.ContainsFunc(l, func(m int) bool { return later(m) < here }) {
			return i, here
		}
	}
	return -1, 0
}

// P3.3: all short rows of the numbers that matter.
func TestFirstOfAll(t *testing.T) {
	check := func(l ...int) {
		at, tick := age.First(l...)
		if wantAt, want := first(l); at != wantAt || tick != want {
			t.Errorf("%v: %d, %d, not %d, %d", l, at, tick, wantAt, want)
		}
	}
	l := numbers()
	for _, a := range l {
		for _, b := range l {
			check(a, b)
			for _, c := range l {
				check(a, b, c)
			}
		}
	}
	all := mixed()
	for from := range all {
		for to := from; to <= len(all); to++ {
			check(all[from:to]...)
		}
	}
}

// P3.3: the place in a long row, wherever it is.
func TestFirstOfMany(t *testing.T) {
	const many = 1 << 16
	for _, low := range []int{leastInt, -1, 0, 1, 7} {
		for _, place := range []int{0, 1, many / 2, many - 2, many - 1} {
			l := slices.Repeat([]int{8}, many)
			l[place] = low
			if at, tick := age.First(l...); at != place || tick != max(low, 0) {
				t.Errorf("%d at %d: %d, %d", low, place, at, tick)
			}
			l[many-1] = low
			if at, tick := age.First(l...); at != place || tick != max(low, 0) {
				t.Errorf("%d at %d, and at the end: %d, %d", low, place, at, tick)
			}
		}
	}
}

// P3.4: what is old stays old.
func TestOldStaysOld(t *testing.T) {
	l := numbers()
	for _, since := range l {
		for _, length := range l {
			was := false
			for _, now := range l {
				is := age.Old(since, length, now)
				if was && !is {
					t.Errorf("%d, %d: not old any more at %d", since, length, now)
				}
				was = is
			}
			if !was {
				t.Errorf("%d, %d: never old", since, length)
			}
		}
	}
}

// P3.4: later by two lengths is later by their sum.
func TestLaterBySums(t *testing.T) {
	l := numbers()
	for _, from := range l {
		for _, a := range l {
			for _, b := range l {
				two := age.Later(from, a, b)
				if by := age.Later(from, age.Later(a, b)); by != two {
					t.Errorf("%d, %d, %d: %d by their sum, not %d", from, a, b, by, two)
				}
				if by := age.Later(from, age.Clamp(a)+age.Clamp(b)); by != two {
					t.Errorf("%d, %d, %d: %d by their bare sum, not %d", from, a, b, by, two)
				}
				if by := age.Later(age.Later(from, a), b); by != two {
					t.Errorf("%d, %d, %d: %d one behind the other, not %d", from, a, b, by, two)
				}
				if by := age.Later(from, b, a); by != two {
					t.Errorf("%d, %d, %d: %d the other way about, not %d", from, a, b, by, two)
				}
			}
		}
	}
}

// P3.4: gone of what is later, and of what would be later than the last tick.
func TestGoneOfLater(t *testing.T) {
	for since, from := range clamps() {
		for n, length := range clamps() {
			want := min(length, last-from)
			if got := age.Gone(since, age.Later(since, n)); got != want {
				t.Errorf("%d, %d: %d, not %d", since, n, got, want)
			}
		}
	}
}

// R4: what is handed in stays as it is, spare room behind it included.
func TestArgumentsStay(t *testing.T) {
	was := mixed()
	for n := range len(was) + 1 {
		l := slices.Clone(was)
		age.Later(1, l[:n]...)
		age.First(l[:n]...)
		if !slices.Equal(l, was) {
			t.Errorf("of %d: %v", n, l)
		}
	}
}

// R3: the same arguments have the same answers, whatever was called between.
func TestNothingIsKept(t *testing.T) {
	tell := func() [6]int {
		at, tick := age.First(7, 3, 3)
		old := 0
		if age.Old(5, 3, 8) {
			old = 1
		}
		return [6]int{age.Clamp(5), age.Later(5, 3, 2), age.Gone(3, 9), old, at, tick}
	}
	want := [6]int{5, 10, 6, 1, 1, 3}
	for _, a := range numbers() {
		for _, b := range numbers() {
			age.Clamp(a)
			age.Later(a, b, a)
			age.Gone(a, b)
			age.Old(a, b, a)
			age.First(a, b)
			age.First()
			if got := tell(); got != want {
				t.Fatalf("behind %d, %d: %v", a, b, got)
			}
		}
	}
}
