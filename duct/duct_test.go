package duct_test

import (
	"fmt"
	"slices"
	"testing"

	"switchboard/api"
	"switchboard/duct"
)

const (
	mostInt  = int(^uint(0) >> 1)
	leastInt = -mostInt - 1

	// The greatest Cap and how many ducts a goroutine has, written out, so that the tests do not hang on what they test against.
	most  = 64
	ducts = 5
)

// letter answers the n-th of letters that are all unlike, and of which no field is zero.
func letter(n int) api.Letter {
	return api.Letter{Kind: api.LtAsk + int8(n%7), From: n + 1, Num: -n - 1, Sock: 2*n + 1, Text: fmt.Sprint("letter ", n), E: api.ErrArg}
}

// letters answers n of them, from the from-th on.
func letters(from, n int) []api.Letter {
	var l []api.Letter
	for i := range n {
		l = append(l, letter(from+i))
	}
	return l
}

// odd are letters such as nothing makes.
func odd() []api.Letter {
	return []api.Letter{
		{},
		{Kind: -128, From: leastInt, Num: leastInt, Sock: leastInt, E: api.Errno(leastInt)},
		{Kind: 127, From: mostInt, Num: mostInt, Sock: mostInt, Text: "\xff\x00 \u00e4", E: api.Errno(mostInt)},
		{},
	}
}

// one answers an open duct, shut one a closed one, of that Cap and with n letters.
func one(size, n int) api.Duct {
	return api.Duct{Cap: size, In: letters(0, n)}
}

func shut(size, n int) api.Duct {
	d := one(size, n)
	d.Closed = true
	return d
}

// mayBe are ducts that may be: empty, between, all but full and full ones, open and closed ones.
func mayBe() []api.Duct {
	var l []api.Duct
	for _, size := range []int{0, 1, 2, 3, 5, most - 1, most} {
		for n := range size + 1 {
			if n < 4 || n > size-4 {
				l = append(l, one(size, n), shut(size, n))
			}
		}
	}
	return append(l, api.Duct{Cap: 4, In: odd()}, api.Duct{Cap: 9, In: odd(), Closed: true}, api.Duct{In: []api.Letter{}}, api.Duct{Cap: 2, In: []api.Letter{}, Closed: true})
}

// mayNotBe are ducts that may not be, open and closed ones.
func mayNotBe() []api.Duct {
	var l []api.Duct
	for _, size := range []int{leastInt, leastInt + 1, -most, -2, -1, most + 1, most + 2, mostInt - 1, mostInt} {
		for _, n := range []int{0, 1, 2, most, most + 1} {
			l = append(l, one(size, n), shut(size, n))
		}
	}
	for _, size := range []int{0, 1, 2, most - 1, most} {
		for _, over := range []int{1, 2, most} {
			l = append(l, one(size, size+over), shut(size, size+over))
		}
	}
	return l
}

func all() []api.Duct {
	return append(mayBe(), mayNotBe()...)
}

// same says once more, field by field, whether a and b are alike.
func same(a, b api.Duct) bool {
	return a.Cap == b.Cap && a.Closed == b.Closed && alike(a.In, b.In)
}

func alike(a, b []api.Letter) bool {
	if len(a) != len(b) {
		return false
	}
	for i := range a {
		if a[i] != b[i] {
			return false
		}
	}
	return true
}

// cloned answers d once more, in other memory.
func cloned(d api.Duct) api.Duct {
	d.In = slices.Clone(d.In)
	return d
}

// with answers d once more, with those letters instead.
func with(d api.Duct, l []api.Letter) api.Duct {
	d.In = slices.Clone(l)
	return d
}

func closed(d api.Duct) api.Duct {
	d = cloned(d)
	d.Closed = true
	return d
}

// tell tells d without all of its letters' fields.
func tell(d api.Duct) string {
	var from []int
	for _, m := range d.In {
		from = append(from, m.From)
	}
	return fmt.Sprintf("{Cap %d, closed %t, %d letters %v}", d.Cap, d.Closed, len(d.In), from)
}

// P5.1: a new duct is open, of that Cap, with those letters; or there is none.
func TestNew(t *testing.T) {
	for _, size := range []int{leastInt, leastInt + 1, -most, -2, -1, 0, 1, 2, 3, most - 1, most, most + 1, most + 2, mostInt - 1, mostInt} {
		for _, n := range []int{0, 1, 2, 3, 4, most - 1, most, most + 1, 2 * most} {
			var want api.Duct
			wantE := api.ErrArg
			if 0 <= size && size <= 64 && n <= size {
				want, wantE = one(size, n), api.OK
			}
			if got, e := duct.New(size, letters(0, n)...); !same(got, want) || e != wantE {
				t.Errorf("%d, %d letters: %s, %d, not %s, %d", size, n, tell(got), e, tell(want), wantE)
			}
		}
	}
	if got, e := duct.New(4, odd()...); !same(got, api.Duct{Cap: 4, In: odd()}) || e != api.OK {
		t.Error("odd letters", tell(got), e)
	}
	if got, e := duct.New(3, odd()...); !same(got, api.Duct{}) || e != api.ErrArg {
		t.Error("one odd letter too many", tell(got), e)
	}
	if got, e := duct.New(1, []api.Letter{}...); !same(got, api.Duct{Cap: 1}) || e != api.OK {
		t.Error("an empty list", tell(got), e)
	}
}

// P5.1: which ducts may be; of several each must.
func TestMay(t *testing.T) {
	if !duct.May() || !duct.May([]api.Duct{}...) || !duct.May(api.Duct{}) || !duct.May(mayBe()...) {
		t.Error("none, a zero one, all that may be")
	}
	for _, d := range mayBe() {
		if !duct.May(d) || !duct.May(d, d) {
			t.Errorf("%s may not be", tell(d))
		}
	}
	for _, d := range mayNotBe() {
		good := one(2, 1)
		if duct.May(d) || duct.May(d, good, good) || duct.May(good, d, good) || duct.May(good, good, d) || duct.May(d, d) {
			t.Errorf("%s may be", tell(d))
		}
	}
	for _, c := range []struct {
		size, n int
		want    bool
	}{
		{0, 0, true}, {0, 1, false}, {1, 0, true}, {1, 1, true}, {1, 2, false}, {64, 0, true}, {64, 64, true}, {64, 65, false}, {65, 0, false}, {65, 65, false}, {-1, 0, false}, {leastInt, 0, false}, {mostInt, 0, false}, {leastInt, 1, false}, {mostInt, 1, false},
	} {
		if got := duct.May(one(c.size, c.n)); got != c.want {
			t.Errorf("%s: %t", tell(one(c.size, c.n)), got)
		}
		if got := duct.May(shut(c.size, c.n)); got != c.want {
			t.Errorf("%s: %t", tell(shut(c.size, c.n)), got)
		}
	}
}

// P5.1: how many letters there is room for, of ducts that may be and of others.
func TestRoom(t *testing.T) {
	for _, c := range []struct{ size, n, want int }{
		{0, 0, 0}, {1, 0, 1}, {1, 1, 0}, {2, 0, 2}, {2, 1, 1}, {2, 2, 0}, {3, 1, 2}, {64, 0, 64}, {64, 1, 63}, {64, 62, 2}, {64, 63, 1}, {64, 64, 0},

		// In has more letters than Cap.
		{0, 1, 0}, {0, 2, 0}, {1, 2, 0}, {2, 3, 0}, {64, 65, 0}, {64, 128, 0},

		// Cap is below 0, or above MaxCap.
		{-1, 0, 0}, {-1, 1, 0}, {-64, 0, 0}, {leastInt, 0, 0}, {leastInt, 1, 0}, {leastInt, 64, 0}, {leastInt + 1, 2, 0}, {65, 0, 65}, {65, 64, 1}, {65, 65, 0}, {65, 66, 0}, {mostInt, 0, mostInt}, {mostInt, 1, mostInt - 1},
	} {
		if got := duct.Room(one(c.size, c.n)); got != c.want {
			t.Errorf("%s: %d, not %d", tell(one(c.size, c.n)), got, c.want)
		}
		if got := duct.Room(shut(c.size, c.n)); got != 0 {
			t.Errorf("%s: %d", tell(shut(c.size, c.n)), got)
		}
	}
}

// P5.1: something can be taken out of what has a letter, or is closed, whatever its Cap.
func TestReady(t *testing.T) {
	for _, d := range all() {
		if got, want := duct.Ready(d), len(d.In) > 0 || d.Closed; got != want {
			t.Errorf("%s: %t", tell(d), got)
		}
	}
	for _, size := range []int{leastInt, -1, 0, 1, most, most + 1, mostInt} {
		if duct.Ready(one(size, 0)) || duct.Ready(api.Duct{Cap: size, In: []api.Letter{}}) || !duct.Ready(one(size, 1)) || !duct.Ready(one(size, most+1)) || !duct.Ready(shut(size, 0)) || !duct.Ready(shut(size, 1)) {
			t.Errorf("of Cap %d", size)
		}
		if !duct.Ready(api.Duct{Cap: size, In: make([]api.Letter, 1)}) {
			t.Errorf("of Cap %d, a letter that is all zero", size)
		}
	}
	if (duct.Ready(api.Duct{In: letters(0, 3)[:0]})) {
		t.Error("letters in the room behind In")
	}
}

// P5.1: ducts that differ in one field, and letters that do.
func TestSame(t *testing.T) {
	for i, a := range all() {
		for j, b := range all() {
			if got, want := duct.Same(a, b), same(a, b); got != want || i == j && !got {
				t.Errorf("%s, %s: %t", tell(a), tell(b), got)
			}
		}
	}
	base := api.Duct{Cap: 3, In: letters(0, 3)}
	others := []api.Duct{
		{Cap: 4, In: letters(0, 3)}, {Cap: -3, In: letters(0, 3)}, {Cap: 3, In: letters(0, 3), Closed: true},
		{Cap: 3}, {Cap: 3, In: letters(0, 2)}, {Cap: 3, In: letters(1, 2)}, {Cap: 3, In: letters(1, 3)}, {Cap: 3, In: letters(0, 4)},
		{Cap: 3, In: []api.Letter{letter(1), letter(0), letter(2)}}, {Cap: 3, In: []api.Letter{letter(2), letter(1), letter(0)}},
	}
	for at := range base.In {
		for _, change := range []func(m *api.Letter){
			func(m *api.Letter) { m.Kind++ }, func(m *api.Letter) { m.From++ }, func(m *api.Letter) { m.Num++ }, func(m *api.Letter) { m.Sock++ },
			func(m *api.Letter) { m.Text += " " }, func(m *api.Letter) { m.Text = "" }, func(m *api.Letter) { m.E = api.OK }, func(m *api.Letter) { *m = api.Letter{} },
		} {
			d := cloned(base)
			change(&d.In[at])
			others = append(others, d)
		}
	}
	for _, d := range others {
		if duct.Same(base, d) || duct.Same(d, base) || !duct.Same(d, cloned(d)) {
			t.Errorf("%s, %s", tell(base), tell(d))
		}
	}
	if !duct.Same(base, base) || !duct.Same(base, cloned(base)) || !duct.Same(api.Duct{}, api.Duct{In: []api.Letter{}}) || !duct.Same(api.Duct{Cap: 3, In: letters(0, 5)[:3]}, base) {
		t.Error("the same, in the same memory and in other, nil and empty, with room behind")
	}
}

// P5.2: what is put stands behind In, all of it or none; the errors in their order.
func TestPut(t *testing.T) {
	for _, d := range all() {
		for _, n := range []int{0, 1, 2, 3, most - 1, most, most + 1} {
			l := letters(100, n)
			want, wantE := d, api.OK
			switch {
			case d.Cap < 0 || d.Cap > 64 || len(d.In) > d.Cap:
				wantE = api.ErrArg
			case d.Closed:
				wantE = api.ErrShut
			case len(d.In)+n > d.Cap:
				wantE = api.ErrRoom
			default:
				want = with(d, slices.Concat(d.In, l))
			}
			if got, e := duct.Put(d, l...); !same(got, want) || e != wantE {
				t.Errorf("%s, %d: %s, %d, not %s, %d", tell(d), n, tell(got), e, tell(want), wantE)
			}
		}
	}
}

// P5.2: the cases of Put one by one.
func TestPutOfEach(t *testing.T) {
	for _, c := range []struct {
		name string
		d    api.Duct
		n    int
		want api.Duct
		e    api.Errno
	}{
		{"nothing into Cap 0", one(0, 0), 0, one(0, 0), api.OK},
		{"one into Cap 0", one(0, 0), 1, one(0, 0), api.ErrRoom},
		{"two into Cap 0", one(0, 0), 2, one(0, 0), api.ErrRoom},
		{"one into Cap 1", one(1, 0), 1, with(one(1, 0), []api.Letter{letter(100)}), api.OK},
		{"two into Cap 1", one(1, 0), 2, one(1, 0), api.ErrRoom},
		{"nothing into what is full", one(2, 2), 0, one(2, 2), api.OK},
		{"one into what is full", one(2, 2), 1, one(2, 2), api.ErrRoom},
		{"one into room for one", one(3, 2), 1, with(one(3, 0), []api.Letter{letter(0), letter(1), letter(100)}), api.OK},
		{"two into room for one", one(3, 2), 2, one(3, 2), api.ErrRoom},
		{"three into room for three", one(4, 1), 3, with(one(4, 0), []api.Letter{letter(0), letter(100), letter(101), letter(102)}), api.OK},
		{"64 into MaxCap", one(64, 0), 64, with(one(64, 0), letters(100, 64)), api.OK},
		{"65 into MaxCap", one(64, 0), 65, one(64, 0), api.ErrRoom},
		{"one into MaxCap but one", one(64, 63), 1, with(one(64, 0), append(letters(0, 63), letter(100))), api.OK},
		{"one into MaxCap that is full", one(64, 64), 1, one(64, 64), api.ErrRoom},
		{"nothing into what is closed", shut(2, 1), 0, shut(2, 1), api.ErrShut},
		{"one into what is closed", shut(2, 1), 1, shut(2, 1), api.ErrShut},
		{"one into what is closed and full", shut(2, 2), 1, shut(2, 2), api.ErrShut},
		{"one into a closed one of Cap 0", shut(0, 0), 1, shut(0, 0), api.ErrShut},
		{"nothing into Cap -1", one(-1, 0), 0, one(-1, 0), api.ErrArg},
		{"nothing into Cap 65", one(65, 0), 0, one(65, 0), api.ErrArg},
		{"one into the least Cap", one(leastInt, 0), 1, one(leastInt, 0), api.ErrArg},
		{"one into the greatest Cap", one(mostInt, 1), 1, one(mostInt, 1), api.ErrArg},
		{"one into a closed one that may not be", shut(1, 2), 1, shut(1, 2), api.ErrArg},
		{"nothing into more letters than Cap", one(1, 2), 0, one(1, 2), api.ErrArg},
	} {
		if got, e := duct.Put(c.d, letters(100, c.n)...); !same(got, c.want) || e != c.e {
			t.Errorf("%s: %s, %d", c.name, tell(got), e)
		}
	}
	if got, e := duct.Put(one(9, 1), odd()...); !same(got, with(one(9, 0), append(letters(0, 1), odd()...))) || e != api.OK {
		t.Error("odd letters", tell(got), e)
	}
}

// P5.2: the first letter, and the duct without it; the errors in their order.
func TestTake(t *testing.T) {
	for _, d := range all() {
		var wantM api.Letter
		want, wantE := d, api.OK
		switch {
		case d.Cap < 0 || d.Cap > 64 || len(d.In) > d.Cap:
			wantE = api.ErrArg
		case len(d.In) > 0:
			wantM, want = d.In[0], with(d, d.In[1:])
		case !d.Closed:
			wantE = api.ErrEmpty
		}
		if m, o, e := duct.Take(d); m != wantM || !same(o, want) || e != wantE {
			t.Errorf("%s: %v, %s, %d, not %v, %s, %d", tell(d), m, tell(o), e, wantM, tell(want), wantE)
		}
	}
}

// P5.2: the cases of Take one by one.
func TestTakeOfEach(t *testing.T) {
	for _, c := range []struct {
		name string
		d    api.Duct
		m    api.Letter
		o    api.Duct
		e    api.Errno
	}{
		{"Cap 0", one(0, 0), api.Letter{}, one(0, 0), api.ErrEmpty},
		{"Cap 0, closed", shut(0, 0), api.Letter{}, shut(0, 0), api.OK},
		{"Cap 1, empty", one(1, 0), api.Letter{}, one(1, 0), api.ErrEmpty},
		{"Cap 1, full", one(1, 1), letter(0), one(1, 0), api.OK},
		{"Cap 1, closed, with a letter", shut(1, 1), letter(0), shut(1, 0), api.OK},
		{"Cap 1, closed, without", shut(1, 0), api.Letter{}, shut(1, 0), api.OK},
		{"two letters", one(3, 2), letter(0), with(one(3, 0), letters(1, 1)), api.OK},
		{"two letters, closed", shut(3, 2), letter(0), with(shut(3, 0), letters(1, 1)), api.OK},
		{"MaxCap, full", one(64, 64), letter(0), with(one(64, 0), letters(1, 63)), api.OK},
		{"a letter that is all zero", api.Duct{Cap: 2, In: []api.Letter{{}, letter(3)}}, api.Letter{}, api.Duct{Cap: 2, In: []api.Letter{letter(3)}}, api.OK},
		{"Cap -1, closed", shut(-1, 0), api.Letter{}, shut(-1, 0), api.ErrArg},
		{"Cap 65, with a letter", one(65, 1), api.Letter{}, one(65, 1), api.ErrArg},
		{"the least Cap", one(leastInt, 1), api.Letter{}, one(leastInt, 1), api.ErrArg},
		{"the greatest Cap", one(mostInt, 1), api.Letter{}, one(mostInt, 1), api.ErrArg},
		{"more letters than Cap", one(1, 2), api.Letter{}, one(1, 2), api.ErrArg},
		{"more letters than Cap, closed", shut(0, 1), api.Letter{}, shut(0, 1), api.ErrArg},
	} {
		if m, o, e := duct.Take(c.d); m != c.m || !same(o, c.o) || e != c.e {
			t.Errorf("%s: %v, %s, %d", c.name, m, tell(o), e)
		}
	}
}

// P5.2: closed, In as it is; twice is an error.
func TestClose(t *testing.T) {
	for _, d := range mayBe() {
		wantE := api.OK
		if d.Closed {
			wantE = api.ErrShut
		}
		got, e := duct.Close(d)
		if !same(got, closed(d)) || e != wantE {
			t.Errorf("%s: %s, %d, not %d", tell(d), tell(got), e, wantE)
		}
		if twice, e := duct.Close(got); !same(twice, closed(d)) || e != api.ErrShut {
			t.Errorf("%s, twice: %s, %d", tell(d), tell(twice), e)
		}
	}
	for _, d := range mayNotBe() {
		if got, e := duct.Close(d); !same(got, d) || e != api.ErrArg {
			t.Errorf("%s: %s, %d", tell(d), tell(got), e)
		}
	}
}

// P5.3: the numbers of a goroutine's ducts.
func TestOf(t *testing.T) {
	for _, c := range []struct{ p, which, want int }{
		{0, api.DuInbox, 0}, {0, api.DuToken, 1}, {0, api.DuReply, 2}, {0, api.DuAnswer, 3}, {0, api.DuFifth, 4},
		{1, api.DuInbox, 5}, {1, api.DuFifth, 9}, {2, api.DuInbox, 10}, {2, api.DuToken, 11}, {7, api.DuReply, 37}, {7, api.DuAnswer, 38}, {1000, api.DuFifth, 5004}, {1 << 28, 3, 5<<28 + 3},

		// A goroutine below 0, a 'which' that is none, both.
		{-1, 0, -1}, {-1, 4, -1}, {-2, 3, -1}, {leastInt, 0, -1}, {leastInt, 4, -1},
		{0, -1, -1}, {0, 5, -1}, {3, -1, -1}, {3, 5, -1}, {3, 6, -1}, {3, leastInt, -1}, {3, mostInt, -1}, {0, leastInt, -1}, {0, mostInt, -1},
		{-1, -1, -1}, {-1, 5, -1}, {leastInt, leastInt, -1}, {leastInt, mostInt, -1}, {mostInt, leastInt, -1}, {mostInt, mostInt, -1}, {mostInt, -1, -1}, {mostInt, 5, -1},
	} {
		if got := duct.Of(c.p, c.which); got != c.want {
			t.Errorf("%d, %d: %d, not %d", c.p, c.which, got, c.want)
		}
	}
	for p := range 300 {
		for which := -7; which < 12; which++ {
			want := -1
			if 0 <= which && which < 5 {
				want = 5*p + which
			}
			if got := duct.Of(p, which); got != want {
				t.Errorf("%d, %d: %d, not %d", p, which, got, want)
			}
			if got := duct.Of(-1-p, which); got != -1 {
				t.Errorf("%d, %d: %d", -1-p, which, got)
			}
		}
	}
}

// P5.3, P5.4: what is the last duct that an int is the number of; those of later goroutines have none, and none that is another one's.
func TestOfLateGoroutines(t *testing.T) {
	last, left := mostInt/ducts, mostInt%ducts
	for which := range ducts {
		if got := duct.Of(last-1, which); got != ducts*(last-1)+which {
			t.Errorf("the last one but one, %d: %d", which, got)
		}
		want := -1
		if which <= left {
			want = mostInt - left + which
		}
		if got := duct.Of(last, which); got != want {
			t.Errorf("the last one, %d: %d, not %d", which, got, want)
		}
		for _, p := range []int{last + 1, last + 2, 2 * last, 3 * last, mostInt - 1, mostInt} {
			if got := duct.Of(p, which); got != -1 {
				t.Errorf("%d, %d: %d", p, which, got)
			}
		}
	}
}

// P5.3: whose a duct is, and which one of its ducts.
func TestWhose(t *testing.T) {
	for _, c := range []struct{ duct, p, which int }{
		{0, 0, api.DuInbox}, {1, 0, api.DuToken}, {2, 0, api.DuReply}, {3, 0, api.DuAnswer}, {4, 0, api.DuFifth}, {5, 1, api.DuInbox}, {9, 1, api.DuFifth}, {10, 2, api.DuInbox}, {37, 7, api.DuReply}, {5004, 1000, api.DuFifth},
		{-1, -1, -1}, {-2, -1, -1}, {-5, -1, -1}, {-6, -1, -1}, {leastInt, -1, -1}, {leastInt + 1, -1, -1},
		{mostInt, mostInt / 5, mostInt % 5}, {mostInt - mostInt%5 - 1, mostInt/5 - 1, 4},
	} {
		if p, which := duct.Whose(c.duct); p != c.p || which != c.which {
			t.Errorf("%d: %d, %d, not %d, %d", c.duct, p, which, c.p, c.which)
		}
	}
	for p := range 300 {
		for which := range 5 {
			if gotP, got := duct.Whose(5*p + which); gotP != p || got != which {
				t.Errorf("%d: %d, %d", 5*p+which, gotP, got)
			}
			if gotP, got := duct.Whose(-1 - 5*p - which); gotP != -1 || got != -1 {
				t.Errorf("%d: %d, %d", -1-5*p-which, gotP, got)
			}
		}
	}
}

// P5.3: a goroutine's ducts at first.
func TestOwn(t *testing.T) {
	for _, c := range []struct{ fifth, size int }{
		{0, 0}, {1, 1}, {2, 2}, {8, 8}, {63, 63}, {64, 64},
		{-1, 0}, {-2, 0}, {-64, 0}, {leastInt + 1, 0}, {leastInt, 0}, {65, 64}, {66, 64}, {1000, 64}, {mostInt - 1, 64}, {mostInt, 64},
	} {
		own := duct.Own(c.fifth)
		if len(own) != ducts {
			t.Fatalf("%d: %v", c.fifth, own)
		}
		for which, size := range map[int]int{api.DuInbox: 0, api.DuToken: 0, api.DuReply: 1, api.DuAnswer: 1, api.DuFifth: c.size} {
			if !same(own[which], api.Duct{Cap: size}) {
				t.Errorf("%d: of its ducts the one at %d is %s", c.fifth, which, tell(own[which]))
			}
		}
		if !duct.May(own...) {
			t.Errorf("%d: they may not be", c.fifth)
		}
	}
}

// P5.4: whatever is put, taken, closed, in whatever order: what was put comes out in order, once.
func TestInOrderOnce(t *testing.T) {
	const steps, kinds = 7, 4
	many := 1
	for range steps {
		many *= kinds
	}
	for _, size := range []int{0, 1, 2, 3, most} {
		for script := range many {
			follow(t, size, script, steps, kinds)
		}
	}
}

// follow does what the digits of script say: one letter, two letters, a taking, a closing; beside it goes a queue of numbers.
func follow(t *testing.T, size, script, steps, kinds int) {
	t.Helper()
	d, e := duct.New(size)
	if e != api.OK {
		t.Fatal(size, e)
	}
	next := 0
	var queue []int
	shut := false
	for code := script; steps > 0; steps-- {
		before := cloned(d)
		want := api.OK
		switch kind := code % kinds; kind {
		case 0, 1:
			n := kind + 1
			d, e = duct.Put(d, letters(next, n)...)
			switch {
			case shut:
				want = api.ErrShut
			case len(queue)+n > size:
				want = api.ErrRoom
			default:
				for range n {
					queue = append(queue, next)
					next++
				}
			}
		case 2:
			var m, wantM api.Letter
			m, d, e = duct.Take(d)
			switch {
			case len(queue) > 0:
				wantM = letter(queue[0])
				queue = queue[1:]
			case !shut:
				want = api.ErrEmpty
			}
			if m != wantM {
				t.Fatalf("Cap %d, %d: %v, not %v", size, script, m, wantM)
			}
		case 3:
			d, e = duct.Close(d)
			if shut {
				want = api.ErrShut
			}
			shut = true
		}
		if e != want || e != api.OK && !same(d, before) || d.Cap != size || d.Closed != shut || len(d.In) != len(queue) || !duct.May(d) {
			t.Fatalf("Cap %d, %d: %s, %d, not %d", size, script, tell(d), e, want)
		}
		code /= kinds
	}
}

// P5.4: a closed duct tells what is in it, in order, and behind it a letter that is all zero, for ever.
func TestClosedForEver(t *testing.T) {
	for _, size := range []int{0, 1, 2, 3, most} {
		for n := range size + 1 {
			d, e := duct.Close(one(size, n))
			if e != api.OK {
				t.Fatalf("%s: %d", tell(one(size, n)), e)
			}
			for i := range n + 3*most {
				var want api.Letter
				if i < n {
					want = letter(i)
				}
				m, o, e := duct.Take(d)
				if m != want || e != api.OK || !duct.Ready(d) || duct.Room(d) != 0 || !same(o, with(d, letters(i+1, max(n-i-1, 0)))) {
					t.Fatalf("Cap %d, %d letters, taken the %dth time: %v, %s, %d", size, n, i, m, tell(o), e)
				}
				d = o
			}
		}
	}
}

// P5.4: unlike ducts of goroutines have unlike numbers, and each number is told back.
func TestUnlikeNumbers(t *testing.T) {
	type place struct{ p, which int }
	whose := map[int]place{}
	late := mostInt/ducts - 200
	for _, from := range []int{0, 1 << 28, late} {
		for p := from; p < from+200; p++ {
			for which := range ducts {
				number := duct.Of(p, which)
				if number < 0 {
					t.Fatalf("%d, %d: %d", p, which, number)
				}
				if other, is := whose[number]; is {
					t.Fatalf("%d, %d has the number of %v: %d", p, which, other, number)
				}
				whose[number] = place{p, which}
				if gotP, got := duct.Whose(number); gotP != p || got != which {
					t.Errorf("%d, %d: %d is of %d, %d", p, which, number, gotP, got)
				}
			}
		}
	}
	for _, number := range []int{0, 1, 4, 5, 6, 1 << 20, mostInt - 7, mostInt - 1, mostInt} {
		if got := duct.Of(duct.Whose(number)); got != number {
			t.Errorf("%d: %d", number, got)
		}
	}
}

// makers are the calls that answer a duct made of d, and of l where they take letters.
func makers(l []api.Letter) map[string]func(d api.Duct) api.Duct {
	return map[string]func(d api.Duct) api.Duct{
		"new":         func(d api.Duct) api.Duct { o, _ := duct.New(d.Cap, d.In...); return o },
		"put":         func(d api.Duct) api.Duct { o, _ := duct.Put(d, l...); return o },
		"put nothing": func(d api.Duct) api.Duct { o, _ := duct.Put(d); return o },
		"take":        func(d api.Duct) api.Duct { _, o, _ := duct.Take(d); return o },
		"close":       func(d api.Duct) api.Duct { o, _ := duct.Close(d); return o },
	}
}

// roomy answers l with room behind it, and all of what it stands in.
func roomy(l []api.Letter) (in, whole []api.Letter) {
	whole = append(slices.Clone(l), letters(900, 3)...)
	return whole[:len(l)], whole
}

// spoil writes over all of l, the room behind it, and what is appended to it.
func spoil(l []api.Letter) {
	for _, all := range [][]api.Letter{l[:cap(l)], append(l, letter(777))} {
		for i := range all {
			all[i] = letter(999)
		}
	}
}

// P5.2, and R4: what comes of a duct is in memory of its own, behind an error too; what was handed in, the room behind it included, stays as it is.
func TestOwnMemory(t *testing.T) {
	for _, d := range all() {
		for _, n := range []int{0, 1, 2, most + 1} {
			handed := d
			in, whole := roomy(d.In)
			handed.In = in
			l, more := roomy(letters(100, n))
			for name, of := range makers(l) {
				first, second := of(handed), of(handed)
				want := cloned(second)
				if !same(first, want) {
					t.Errorf("%s of %s, %d: %s, then %s", name, tell(d), n, tell(first), tell(second))
				}
				spoil(first.In)
				if !same(second, want) || !same(of(handed), want) {
					t.Errorf("%s of %s, %d: another answer became %s", name, tell(d), n, tell(second))
				}
				if !alike(whole, append(slices.Clone(d.In), letters(900, 3)...)) || !alike(more, append(letters(100, n), letters(900, 3)...)) {
					t.Fatalf("%s of %s, %d: what was handed in is changed", name, tell(d), n)
				}
				spoil(second.In)
			}
			duct.May(handed, handed)
			duct.Room(handed)
			duct.Ready(handed)
			duct.Same(handed, d)
			if !alike(whole, append(slices.Clone(d.In), letters(900, 3)...)) {
				t.Fatalf("asked of %s: it is changed", tell(d))
			}
		}
	}
}

// R4: what was handed in is not kept: changed later on, it changes no answer.
func TestNotKept(t *testing.T) {
	for _, d := range all() {
		for name := range makers(nil) {
			handed := d
			in, whole := roomy(d.In)
			handed.In = in
			l, more := roomy(letters(100, 2))
			got := makers(l)[name](handed)
			want := cloned(got)
			spoil(whole)
			spoil(more)
			if !same(got, want) {
				t.Errorf("%s of %s: %s became %s", name, tell(d), tell(want), tell(got))
			}
		}
	}
}

// P5.3, and R4: two goroutines' ducts are not the same memory.
func TestOwnOfTwo(t *testing.T) {
	first, second := duct.Own(2), duct.Own(2)
	for which := range first {
		first[which] = shut(9, 4)
	}
	for which, d := range duct.Own(2) {
		if !same(second[which], d) || d.Closed || len(d.In) > 0 {
			t.Errorf("at %d: %s, %s", which, tell(second[which]), tell(d))
		}
	}
}

// P5.2, P5.4: two things done to one duct do not meet.
func TestTwoOfOne(t *testing.T) {
	base, _ := duct.New(4, letters(0, 1)...)
	base, _ = duct.Put(base, letter(1))
	five, _ := duct.Put(base, letter(5))
	six, _ := duct.Put(base, letter(6), letter(7))
	taken, rest, _ := duct.Take(base)
	eight, _ := duct.Put(rest, letter(8))
	ended, _ := duct.Close(base)
	for _, c := range []struct{ got, want api.Duct }{
		{base, one(4, 2)},
		{five, with(base, []api.Letter{letter(0), letter(1), letter(5)})},
		{six, with(base, []api.Letter{letter(0), letter(1), letter(6), letter(7)})},
		{rest, with(base, []api.Letter{letter(1)})},
		{eight, with(base, []api.Letter{letter(1), letter(8)})},
		{ended, shut(4, 2)},
	} {
		if !same(c.got, c.want) {
			t.Errorf("%s, not %s", tell(c.got), tell(c.want))
		}
	}
	if taken != letter(0) {
		t.Error(taken)
	}
}
