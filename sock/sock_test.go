package sock_test

import (
	"fmt"
	"slices"
	"testing"

	"switchboard/api"
	"switchboard/sock"
)

const (
	mostInt  = int(^uint(0) >> 1)
	leastInt = -mostInt - 1

	// The greatest tick, written out, so that the tests do not hang on what they test against.
	last = 1073741824
)

// address answers the n-th of addresses that are all unlike.
func address(n int) api.Addr {
	return api.Addr{Fam: 6, G: [8]uint16{1, uint16(n), 3, 4, 5, 6, 7, 8}, Port: n + 1}
}

// addresses are addresses, and values that are none.
func addresses() []api.Addr {
	return []api.Addr{address(0), {Fam: 4, G: [8]uint16{258, 772}, Port: 80}, {}, {Fam: -1, Port: leastInt}, {Fam: 5, G: [8]uint16{7: 65535}, Port: mostInt}}
}

// one answers the n-th of sockets that are all unlike, shut that often.
func one(n, shut int, dead bool) api.Sock {
	return api.Sock{Addr: address(n), By: n + 10, Opened: n + 20, Shut: shut, Dead: dead}
}

// shuts answers a row of sockets that were shut that often, the odd ones dead.
func shuts(often ...int) []api.Sock {
	var l []api.Sock
	for n, shut := range often {
		l = append(l, one(n, shut, n%2 == 1))
	}
	return l
}

// rows are all rows of up to length of the numbers, the short ones first.
func rows(length int, numbers ...int) [][]int {
	all := [][]int{nil}
	from := 0
	for range length {
		to := len(all)
		for _, l := range all[from:to] {
			for _, n := range numbers {
				all = append(all, append(slices.Clone(l), n))
			}
		}
		from = to
	}
	return all
}

// opening and shutting answer a record.
func opening(n, at int) api.Mark {
	return api.Mark{Sock: n, At: at}
}

func shutting(n, at int) api.Mark {
	return api.Mark{Shut: true, Sock: n, At: at}
}

// records are some records, which need not go together with any sockets.
func records() [][]api.Mark {
	return [][]api.Mark{nil, {}, {opening(0, 20)}, {opening(0, 20), shutting(0, 21), opening(1, 21)}, {shutting(-7, 9), opening(leastInt, mostInt), shutting(mostInt, leastInt)}}
}

// alike says, one by one, whether a and b are the same in the same order.
func alike[T comparable](a, b []T) bool {
	if len(a) != len(b) {
		return false
	}
	for i := range a {
		if a[i] != b[i] {
			return false
		}
	}
	return true
}

// but answers l with what stands at place n changed.
func but[T any](l []T, n int, change func(*T)) []T {
	l = slices.Clone(l)
	change(&l[n])
	return l
}

// outside are numbers that no socket of a row of that length has.
func outside(length int) []int {
	return []int{leastInt, leastInt + 1, -last, -2, -1, length, length + 1, length + 100, last, mostInt - 1, mostInt}
}

// ticks are ticks, and what counts as one.
func ticks() []int {
	return []int{leastInt, leastInt + 1, -1, 0, 1, 20, last - 1, last, last + 1, mostInt}
}

// P8.1: one more, not dead and never shut, and its record, at now as it is; its number.
func TestOpen(t *testing.T) {
	for _, often := range rows(3, -1, 0, 1, 2) {
		l := shuts(often...)
		for _, m := range records() {
			for _, a := range addresses() {
				for _, now := range ticks() {
					by := 3 - now
					socks, marks, n := sock.Open(l, m, a, by, now)
					wantSocks := append(slices.Clone(l), api.Sock{Addr: a, By: by, Opened: now, Shut: 0, Dead: false})
					wantMarks := append(slices.Clone(m), api.Mark{Shut: false, Sock: len(l), At: now})
					if !alike(socks, wantSocks) || !alike(marks, wantMarks) || n != len(l) {
						t.Fatalf("%v, %v, at %d: %v, %v, %d", l, m, now, socks, marks, n)
					}
				}
			}
		}
	}
}

// P8.1: By is as it is, whoever that is.
func TestOpenBy(t *testing.T) {
	for _, by := range []int{leastInt, -1, 0, 1, mostInt} {
		socks, _, _ := sock.Open(nil, nil, address(1), by, 5)
		if !alike(socks, []api.Sock{{Addr: address(1), By: by, Opened: 5}}) {
			t.Error(by, socks)
		}
	}
}

// P8.1: Open after Open, of nothing at first: at ticks that rise, are equal and fall, below 0 and above MaxTick.
func TestOpenAfterOpen(t *testing.T) {
	for _, at := range rows(4, leastInt, -1, 0, 7, last+1, mostInt) {
		var l []api.Sock
		var m []api.Mark
		var wantSocks []api.Sock
		var wantMarks []api.Mark
		for i, now := range at {
			var n int
			l, m, n = sock.Open(l, m, address(i), -i, now)
			wantSocks = append(wantSocks, api.Sock{Addr: address(i), By: -i, Opened: now})
			wantMarks = append(wantMarks, opening(i, now))
			if n != i {
				t.Fatalf("%v: the %dth has the number %d", at, i, n)
			}
		}
		if !alike(l, wantSocks) || !alike(m, wantMarks) {
			t.Fatalf("%v: %v, %v", at, l, m)
		}
		if len(sock.Live(l)) != len(at) || len(sock.Twice(l)) != 0 {
			t.Fatalf("%v: open are %v", at, sock.Live(l))
		}
	}
}

// P8.1: shut once more, whether it was or not, dead or not, and its record, at now as it is; all others as they were.
func TestShut(t *testing.T) {
	for _, often := range rows(4, -1, 0, 1, 2) {
		l := shuts(often...)
		for _, m := range records() {
			for n := range l {
				for _, now := range ticks() {
					socks, marks, e := sock.Shut(l, m, n, now)
					wantSocks := but(l, n, func(s *api.Sock) { s.Shut = often[n] + 1 })
					wantMarks := append(slices.Clone(m), api.Mark{Shut: true, Sock: n, At: now})
					if !alike(socks, wantSocks) || !alike(marks, wantMarks) || e != api.OK {
						t.Fatalf("%v, %v, %d at %d: %v, %v, %d", l, m, n, now, socks, marks, e)
					}
				}
			}
		}
	}
}

// P8.1: one socket, shut again and again.
func TestShutManyTimes(t *testing.T) {
	for _, dead := range []bool{false, true} {
		l, m := []api.Sock{one(0, 0, dead), one(1, 0, dead)}, []api.Mark{opening(0, 20), opening(1, 21)}
		want := slices.Clone(m)
		for often := range 200 {
			if open := sock.IsOpen(l, 0); open != (often == 0) {
				t.Fatalf("shut %d times: open %t", often, open)
			}
			if twice := len(sock.Twice(l)) == 1; twice != (often > 1) {
				t.Fatalf("shut %d times: twice %t", often, twice)
			}
			var e api.Errno
			l, m, e = sock.Shut(l, m, 0, 30+often/2)
			want = append(want, shutting(0, 30+often/2))
			if e != api.OK || !alike(l, []api.Sock{one(0, often+1, dead), one(1, 0, dead)}) || !alike(m, want) || sock.Check(l, m) != api.OK {
				t.Fatalf("shut %d times: %v, %v, %d, check %d", often+1, l, m, e, sock.Check(l, m))
			}
		}
	}
}

// P8.1: what is below 0 is one more, too; the greatest int ends, and the socket is not open behind it.
func TestShutOfExtremes(t *testing.T) {
	for _, c := range [][2]int{{leastInt, leastInt + 1}, {-2, -1}, {-1, 0}, {0, 1}, {mostInt - 1, mostInt}} {
		l := shuts(0, c[0], 3)
		socks, marks, e := sock.Shut(l, nil, 1, 4)
		if !alike(socks, shuts(0, c[1], 3)) || !alike(marks, []api.Mark{shutting(1, 4)}) || e != api.OK {
			t.Errorf("shut %d times: %v, %v, %d", c[0], socks, marks, e)
		}
	}
	socks, marks, e := sock.Shut(shuts(0, mostInt, 3), nil, 1, 4)
	if len(socks) != 3 || sock.IsOpen(socks, 1) || socks[0] != one(0, 0, false) || socks[2] != one(2, 3, false) || !alike(marks, []api.Mark{shutting(1, 4)}) || e != api.OK {
		t.Errorf("shut the greatest number of times: %v, %v, %d", socks, marks, e)
	}
}

// P8.1: no such socket is neither shut nor dropped, and nothing comes of it.
func TestNoSuchSocket(t *testing.T) {
	for length := range 4 {
		for _, l := range [][]api.Sock{shuts(make([]int, length)...), shuts(1, 1, 1)[:length]} {
			for _, n := range outside(length) {
				for _, m := range records() {
					socks, marks, e := sock.Shut(l, m, n, 9)
					if len(socks) != 0 || len(marks) != 0 || e != api.ErrSocket {
						t.Errorf("%d of %d shut: %v, %v, %d", n, length, socks, marks, e)
					}
				}
				socks, e := sock.Drop(l, n)
				if len(socks) != 0 || e != api.ErrSocket {
					t.Errorf("%d of %d dropped: %v, %d", n, length, socks, e)
				}
			}
		}
	}
	if api.ErrSocket != 80 {
		t.Error("ErrSocket is", api.ErrSocket)
	}
}

// P8.1: one that is open, dead already or not, drops; one that was shut does not; all others are as they were.
func TestDrop(t *testing.T) {
	for _, often := range rows(4, leastInt, -1, 0, 1, 2, mostInt) {
		l := shuts(often...)
		for n := range l {
			for _, dead := range []bool{false, true} {
				l := but(l, n, func(s *api.Sock) { s.Dead = dead })
				socks, e := sock.Drop(l, n)
				if often[n] != 0 {
					if len(socks) != 0 || e != api.ErrSocket {
						t.Fatalf("%v, %d: %v, %d", often, n, socks, e)
					}
					continue
				}
				if !alike(socks, but(l, n, func(s *api.Sock) { s.Dead = true })) || e != api.OK {
					t.Fatalf("%v, %d: %v, %d", often, n, socks, e)
				}
			}
		}
	}
}

// P8.1: what is dead stays open, and drops again; behind a shutting it does not.
func TestDropThenShut(t *testing.T) {
	l, m, n := sock.Open(nil, nil, address(0), 1, 2)
	for range 3 {
		var e api.Errno
		l, e = sock.Drop(l, n)
		if e != api.OK || !l[n].Dead || !sock.IsOpen(l, n) || !alike(sock.Live(l), []int{n}) || sock.Check(l, m) != api.OK {
			t.Fatal(l, e)
		}
	}
	l, m, _ = sock.Shut(l, m, n, 2)
	if socks, e := sock.Drop(l, n); len(socks) != 0 || e != api.ErrSocket {
		t.Error(socks, e)
	}
	if !l[n].Dead || sock.IsOpen(l, n) || sock.Check(l, m) != api.OK {
		t.Error(l, m)
	}
}

// P8.2: is each a socket that is open: of no number, of one, of several, of the same twice, of no such socket.
func TestIsOpen(t *testing.T) {
	for _, often := range rows(3, leastInt, -1, 0, 1, 2, mostInt) {
		l := shuts(often...)
		if !sock.IsOpen(l) || !sock.IsOpen(l, []int{}...) {
			t.Fatalf("%v: of no number", often)
		}
		for _, n := range rows(3, -1, 0, 1, 2, 3) {
			want := true
			for _, number := range n {
				want = want && number >= 0 && number < len(l) && often[number] == 0
			}
			if got := sock.IsOpen(l, n...); got != want {
				t.Fatalf("%v of %v: %t", n, often, got)
			}
		}
		for _, n := range outside(len(l)) {
			if sock.IsOpen(l, n) || sock.IsOpen(l, n, n) || sock.IsOpen(l, 0, n) || sock.IsOpen(l, n, 0) {
				t.Fatalf("%d of %v", n, often)
			}
		}
	}
}

// P8.2: dead or not is nothing to a socket's being open.
func TestIsOpenDead(t *testing.T) {
	for _, dead := range []bool{false, true} {
		l := []api.Sock{one(0, 0, dead), one(1, 1, dead), one(2, 2, dead)}
		if !sock.IsOpen(l, 0) || !sock.IsOpen(l, 0, 0) || sock.IsOpen(l, 1) || sock.IsOpen(l, 2) || !alike(sock.Live(l), []int{0}) || !alike(sock.Twice(l), []int{2}) {
			t.Error(l)
		}
	}
}

// P8.2: the open ones, and those that were shut more than once, of none, of some and of all; both rising.
func TestLiveAndTwice(t *testing.T) {
	for _, often := range rows(5, leastInt, -1, 0, 1, 2, mostInt) {
		var live, twice []int
		for n, shut := range often {
			if shut == 0 {
				live = append(live, n)
			}
			if shut > 1 {
				twice = append(twice, n)
			}
		}
		l := shuts(often...)
		if got := sock.Live(l); !alike(got, live) {
			t.Fatalf("open of %v: %v", often, got)
		}
		if got := sock.Twice(l); !alike(got, twice) {
			t.Fatalf("shut twice of %v: %v", often, got)
		}
	}
}

// P8.2: many sockets, all open, then all shut, then all shut twice.
func TestLiveAndTwiceOfMany(t *testing.T) {
	const many = 300
	var all []int
	for n := range many {
		all = append(all, n)
	}
	for often, want := range [][2][]int{{all, nil}, {nil, nil}, {nil, all}, {nil, all}} {
		l := make([]api.Sock, many)
		for n := range l {
			l[n].Shut = often
		}
		if live, twice := sock.Live(l), sock.Twice(l); !alike(live, want[0]) || !alike(twice, want[1]) {
			t.Errorf("shut %d times: open %v, twice %v", often, live, twice)
		}
	}
}

// together says once more, each of the words by itself, whether sockets and a record go together.
func together(l []api.Sock, m []api.Mark) bool {
	for i := range m {
		if i > 0 && m[i].At < m[i-1].At || m[i].Sock < 0 || m[i].Sock >= len(l) {
			return false
		}
	}
	var openings []int
	for _, mark := range m {
		if !mark.Shut {
			openings = append(openings, mark.Sock)
		}
	}
	if !slices.IsSorted(openings) {
		return false
	}
	for n, s := range l {
		if !accounted(n, s, m) {
			return false
		}
	}
	return true
}

// accounted says of socket n, s, alone whether the record tells its opening once, where it was, and its shuttings behind that.
func accounted(n int, s api.Sock, m []api.Mark) bool {
	opened, shut := 0, 0
	for _, mark := range m {
		switch {
		case mark.Sock != n:
		case !mark.Shut:
			if mark.At != s.Opened {
				return false
			}
			opened++
		case opened == 0:
			return false
		default:
			shut++
		}
	}
	return opened == 1 && shut == s.Shut
}

// P8.3: whatever few sockets and records there are, at ticks that count as the same one, but are not.
func TestCheckOfAll(t *testing.T) {
	var marks []api.Mark
	for _, n := range []int{-1, 0, 1, 2} {
		for _, at := range []int{-2, -1} {
			marks = append(marks, opening(n, at), shutting(n, at))
		}
	}
	var socks []api.Sock
	for _, shut := range []int{-1, 0, 1, 2} {
		for _, opened := range []int{-2, -1} {
			socks = append(socks, api.Sock{Opened: opened, Shut: shut})
		}
	}
	lists := [][]api.Sock{nil}
	for _, a := range socks {
		lists = append(lists, []api.Sock{a})
		for _, b := range socks {
			lists = append(lists, []api.Sock{a, b})
		}
	}
	var places []int
	for i := range marks {
		places = append(places, i)
	}
	good := 0
	for _, row := range rows(4, places...) {
		var m []api.Mark
		for _, i := range row {
			m = append(m, marks[i])
		}
		for _, l := range lists {
			want := api.ErrSocket
			if together(l, m) {
				want = api.OK
				good++
			}
			if got := sock.Check(l, m); got != want {
				t.Fatalf("%v, %v: %d, not %d", l, m, got, want)
			}
		}
	}
	if good < 50 {
		t.Errorf("only %d go together", good)
	}
}

// whole answers sockets and a record that go together: three, of which the first one was shut once, the last one twice.
func whole() ([]api.Sock, []api.Mark) {
	l := []api.Sock{
		{Addr: address(0), By: 3, Opened: 5, Shut: 1},
		{Addr: address(1), By: 4, Opened: 5, Dead: true},
		{Addr: address(0), By: 3, Opened: 8, Shut: 2, Dead: true},
	}
	m := []api.Mark{opening(0, 5), opening(1, 5), shutting(0, 7), opening(2, 8), shutting(2, 8), shutting(2, 9)}
	return l, m
}

// P8.3: what goes together, of none, of one and of several.
func TestCheckTogether(t *testing.T) {
	l, m := whole()
	for _, c := range []struct {
		name string
		l    []api.Sock
		m    []api.Mark
	}{
		{"none", nil, nil},
		{"none, empty", []api.Sock{}, []api.Mark{}},
		{"one", []api.Sock{{Opened: 4}}, []api.Mark{opening(0, 4)}},
		{"one, shut at once", []api.Sock{{Opened: 4, Shut: 1}}, []api.Mark{opening(0, 4), shutting(0, 4)}},
		{"one, shut three times", []api.Sock{{Opened: 4, Shut: 3}}, []api.Mark{opening(0, 4), shutting(0, 4), shutting(0, 4), shutting(0, 9)}},
		{"two at one tick", []api.Sock{{Opened: 4}, {Opened: 4}}, []api.Mark{opening(0, 4), opening(1, 4)}},
		{"shut in another order", []api.Sock{{Shut: 1}, {Shut: 1}}, []api.Mark{opening(0, 0), opening(1, 0), shutting(1, 0), shutting(0, 0)}},
		{"ticks below 0 and above MaxTick", []api.Sock{{Opened: leastInt, Shut: 1}, {Opened: -5}, {Opened: last + 1, Shut: 1}}, []api.Mark{opening(0, leastInt), opening(1, -5), shutting(0, -4), opening(2, last+1), shutting(2, mostInt)}},
		{"the greatest tick", []api.Sock{{Opened: mostInt, Shut: 1}}, []api.Mark{opening(0, mostInt), shutting(0, mostInt)}},
		{"three", l, m},
	} {
		if e := sock.Check(c.l, c.m); e != api.OK {
			t.Errorf("%s: %d", c.name, e)
		}
	}
}

// P8.3: such as break one of the words alone.
func TestCheckApart(t *testing.T) {
	l, m := whole()
	for _, c := range []struct {
		name string
		l    []api.Sock
		m    []api.Mark
	}{
		{"a record without sockets", nil, []api.Mark{opening(0, 0)}},
		{"a shutting without sockets", nil, []api.Mark{shutting(0, 0)}},
		{"a socket without a record", []api.Sock{{}}, nil},
		{"a socket that was shut, without a record", []api.Sock{{Shut: 1}}, nil},
		{"a tick that falls", []api.Sock{{Opened: 5, Shut: 1}}, []api.Mark{opening(0, 5), shutting(0, 4)}},
		{"a tick that falls between openings", []api.Sock{{Opened: 5}, {Opened: 4}}, []api.Mark{opening(0, 5), opening(1, 4)}},
		{"a tick that falls between shuttings", l, but(m, 4, func(o *api.Mark) { o.At = 10 })},
		{"a tick that falls back to what was ahead", []api.Sock{{Opened: 5, Shut: 2}}, []api.Mark{opening(0, 5), shutting(0, 7), shutting(0, 6)}},
		{"a tick below 0 that falls", []api.Sock{{Opened: -1, Shut: 1}}, []api.Mark{opening(0, -1), shutting(0, -2)}},
		{"a tick above MaxTick that falls", []api.Sock{{Opened: last + 2, Shut: 1}}, []api.Mark{opening(0, last+2), shutting(0, last+1)}},
		{"from the greatest tick to the least", []api.Sock{{Opened: mostInt, Shut: 1}}, []api.Mark{opening(0, mostInt), shutting(0, leastInt)}},
		{"an opening too few", append(slices.Clone(l), api.Sock{Opened: 9}), m},
		{"an opening too many", l, append(slices.Clone(m), opening(3, 9))},
		{"an opening of the last one twice", []api.Sock{{Opened: 5}, {Opened: 5}}, []api.Mark{opening(0, 5), opening(1, 5), opening(1, 5)}},
		{"an opening of the first one twice", []api.Sock{{Opened: 5}, {Opened: 5}}, []api.Mark{opening(0, 5), opening(0, 5), opening(1, 5)}},
		{"an opening of the first one instead", []api.Sock{{Opened: 5}, {Opened: 5}}, []api.Mark{opening(0, 5), opening(0, 5)}},
		{"opened later than Opened", []api.Sock{{Opened: 5}}, []api.Mark{opening(0, 6)}},
		{"opened ahead of Opened", []api.Sock{{Opened: 5}}, []api.Mark{opening(0, 4)}},
		{"another tick that counts as the same", []api.Sock{{Opened: -1}}, []api.Mark{opening(0, 0)}},
		{"another tick that counts as the greatest", []api.Sock{{Opened: last}}, []api.Mark{opening(0, last+1)}},
		{"openings out of order", []api.Sock{{Opened: 5}, {Opened: 5}}, []api.Mark{opening(1, 5), opening(0, 5)}},
		{"a shutting too few", but(l, 2, func(s *api.Sock) { s.Shut = 3 }), m},
		{"a shutting too many", but(l, 2, func(s *api.Sock) { s.Shut = 1 }), m},
		{"a shutting of one that is open", but(l, 0, func(s *api.Sock) { s.Shut = 0 }), m},
		{"no shutting of one that was shut", but(l, 1, func(s *api.Sock) { s.Shut = 1 }), m},
		{"a shutting of another one", l, but(m, 2, func(o *api.Mark) { o.Sock = 1 })},
		{"shut below 0", but(l, 1, func(s *api.Sock) { s.Shut = -1 }), m},
		{"shut the least int", but(l, 1, func(s *api.Sock) { s.Shut = leastInt }), m},
		{"shut the greatest int", but(l, 1, func(s *api.Sock) { s.Shut = mostInt }), m},
		{"a shutting ahead of its opening", []api.Sock{{Opened: 5, Shut: 1}}, []api.Mark{shutting(0, 5), opening(0, 5)}},
		{"one of two shuttings ahead of its opening", []api.Sock{{Opened: 5}, {Opened: 5, Shut: 2}}, []api.Mark{opening(0, 5), shutting(1, 5), opening(1, 5), shutting(1, 5)}},
	} {
		if e := sock.Check(c.l, c.m); e != api.ErrSocket {
			t.Errorf("%s: %d", c.name, e)
		}
	}
}

// P8.3: a record of a socket that there is not, wherever it stands.
func TestCheckOfNoSuchSocket(t *testing.T) {
	l, m := whole()
	for _, n := range outside(len(l)) {
		for at := range len(m) + 1 {
			now := 5
			if at > 0 {
				now = m[at-1].At
			}
			for _, mark := range []api.Mark{opening(n, now), shutting(n, now)} {
				if e := sock.Check(l, slices.Insert(slices.Clone(m), at, mark)); e != api.ErrSocket {
					t.Errorf("%v at place %d: %d", mark, at, e)
				}
			}
		}
		for at := range m {
			if e := sock.Check(l, but(m, at, func(o *api.Mark) { o.Sock = n })); e != api.ErrSocket {
				t.Errorf("%d at place %d: %d", n, at, e)
			}
		}
	}
}

// P8.3: addresses, who opened them, and being dead are nothing to a record.
func TestCheckLooksAtNothingElse(t *testing.T) {
	l, m := whole()
	for n := range l {
		for _, a := range addresses() {
			for _, by := range []int{leastInt, -1, 0, mostInt} {
				for _, dead := range []bool{false, true} {
					other := but(l, n, func(s *api.Sock) { s.Addr, s.By, s.Dead = a, by, dead })
					if e := sock.Check(other, m); e != api.OK {
						t.Fatalf("%v: %d", other, e)
					}
				}
			}
		}
	}
}

// P8.3: all fields.
func TestSame(t *testing.T) {
	l, _ := whole()
	if !sock.Same(l, slices.Clone(l)) || !sock.Same(nil, []api.Sock{}) || !sock.Same([]api.Sock{}, nil) || !sock.Same(nil, nil) {
		t.Error("the same ones are not")
	}
	for name, change := range map[string]func(s *api.Sock){
		"Fam":    func(s *api.Sock) { s.Addr.Fam++ },
		"Port":   func(s *api.Sock) { s.Addr.Port++ },
		"By":     func(s *api.Sock) { s.By++ },
		"Opened": func(s *api.Sock) { s.Opened++ },
		"Shut":   func(s *api.Sock) { s.Shut++ },
		"Dead":   func(s *api.Sock) { s.Dead = !s.Dead },
	} {
		for n := range l {
			if other := but(l, n, change); sock.Same(l, other) || sock.Same(other, l) || !sock.Same(other, slices.Clone(other)) {
				t.Errorf("%s of %d", name, n)
			}
		}
	}
	for g := range 8 {
		for n := range l {
			if other := but(l, n, func(s *api.Sock) { s.Addr.G[g]++ }); sock.Same(l, other) || sock.Same(other, l) {
				t.Errorf("group %d of %d", g, n)
			}
		}
	}
}

// P8.3: values that nothing makes, as they are; rows of unlike length, and of another order, are not the same.
func TestSameOfRows(t *testing.T) {
	l, _ := whole()
	for n := range l {
		if sock.Same(l, l[:n]) || sock.Same(l[:n], l) || sock.Same(l, append(slices.Clone(l), api.Sock{})) {
			t.Error("the first ones", n)
		}
	}
	if sock.Same(l, []api.Sock{l[1], l[0], l[2]}) || sock.Same(nil, []api.Sock{{}}) || sock.Same([]api.Sock{{}}, nil) || sock.Same(make([]api.Sock, 2), make([]api.Sock, 3)) {
		t.Error("they are not the same")
	}
	for _, a := range ticks() {
		for _, b := range ticks() {
			for name, set := range map[string]func(n int) api.Sock{
				"Opened": func(n int) api.Sock { return api.Sock{Opened: n} },
				"By":     func(n int) api.Sock { return api.Sock{By: n} },
				"Shut":   func(n int) api.Sock { return api.Sock{Shut: n} },
				"Port":   func(n int) api.Sock { return api.Sock{Addr: api.Addr{Port: n}} },
			} {
				if got := sock.Same([]api.Sock{set(a)}, []api.Sock{set(b)}); got != (a == b) {
					t.Errorf("%s %d and %d: %t", name, a, b, got)
				}
			}
		}
	}
}

// The chapter's examples.
func TestExamples(t *testing.T) {
	l, m, first := sock.Open(nil, nil, address(0), 3, 1)
	l, m, second := sock.Open(l, m, address(1), 4, 1)
	l, m, e := sock.Shut(l, m, 0, 2)
	if first != 0 || second != 1 || e != api.OK || !alike(sock.Live(l), []int{1}) || len(sock.Twice(l)) != 0 {
		t.Error(first, second, e, sock.Live(l), sock.Twice(l))
	}
	l, m, e = sock.Shut(l, m, 0, 2)
	if e != api.OK || !alike(sock.Live(l), []int{1}) || !alike(sock.Twice(l), []int{0}) || sock.Check(l, m) != api.OK {
		t.Error(e, sock.Live(l), sock.Twice(l), sock.Check(l, m))
	}
}

// P8.4: whatever is opened, shut and dropped at ticks that do not fall goes together, and as many are open as openings less sockets that were shut.
func TestWhatComes(t *testing.T) {
	const steps = 6
	start := []int{leastInt, -3, 0, last - 2, mostInt - steps}
	many := 1
	for range steps {
		many *= 7
	}
	for _, from := range start {
		for script := range many {
			follow(t, from, script, steps)
		}
	}
}

// follow does what the digits of script say: an opening, a shutting or a dropping of the first or the last one, a tick.
func follow(t *testing.T, from, script, steps int) {
	t.Helper()
	var l []api.Sock
	var m []api.Mark
	now, opened, shut := from, 0, map[int]bool{}
	for code := script; steps > 0; steps-- {
		switch code % 7 {
		case 0, 1:
			l, m, _ = sock.Open(l, m, address(opened), opened, now)
			opened++
		case 2, 3:
			n := []int{0, opened - 1}[code%7-2]
			if socks, marks, e := sock.Shut(l, m, n, now); e == api.OK {
				l, m = socks, marks
				shut[n] = true
			}
		case 4, 5:
			if socks, e := sock.Drop(l, []int{0, opened - 1}[code%7-4]); e == api.OK {
				l = socks
			}
		case 6:
			now++
		}
		code /= 7
	}
	if e := sock.Check(l, m); e != api.OK || len(sock.Live(l)) != opened-len(shut) || len(l) != opened {
		t.Fatalf("%d from %d: check %d, %v, %v", script, from, e, l, m)
	}
}

// P8.4: openings and shuttings go together just where their ticks, as they are, do not fall.
func TestTicksThatFall(t *testing.T) {
	for _, at := range rows(3, leastInt, -2, -1, 0, last, last+1, mostInt) {
		for bits := range 8 {
			var l []api.Sock
			var m []api.Mark
			for i, now := range at {
				socks, marks, e := sock.Shut(l, m, 0, now)
				if bits>>i&1 == 0 || e != api.OK {
					socks, marks, _ = sock.Open(l, m, address(i), i, now)
				}
				l, m = socks, marks
			}
			want := api.ErrSocket
			if slices.IsSorted(at) {
				want = api.OK
			}
			if got := sock.Check(l, m); got != want {
				t.Fatalf("%v, %d: %d, %v, %v", at, bits, got, l, m)
			}
		}
	}
}

// roomy answers l with room behind it, and all of what it stands in.
func roomy[T any](l []T, guard T) (row, whole []T) {
	whole = append(slices.Clone(l), guard, guard, guard)
	return whole[:len(l)], whole
}

// spoil writes over all of l, the room behind it, and what is appended to it.
func spoil[T any](l []T, with T) {
	for _, all := range [][]T{l[:cap(l)], append(l, with)} {
		for i := range all {
			all[i] = with
		}
	}
}

// What stands in the room behind what is handed in, and what is written over it.
func guards() (api.Sock, api.Mark) { return one(90, 91, true), shutting(92, 93) }

func spoilers() (api.Sock, api.Mark) { return one(80, 81, true), shutting(82, 83) }

// makers are the calls that answer sockets and a record made of others.
func makers() map[string]func(l []api.Sock, m []api.Mark) ([]api.Sock, []api.Mark) {
	return map[string]func(l []api.Sock, m []api.Mark) ([]api.Sock, []api.Mark){
		"open": func(l []api.Sock, m []api.Mark) ([]api.Sock, []api.Mark) {
			socks, marks, _ := sock.Open(l, m, address(5), 6, 7)
			return socks, marks
		},
		"shut": func(l []api.Sock, m []api.Mark) ([]api.Sock, []api.Mark) {
			socks, marks, _ := sock.Shut(l, m, 0, 8)
			return socks, marks
		},
		"drop": func(l []api.Sock, _ []api.Mark) ([]api.Sock, []api.Mark) {
			socks, _ := sock.Drop(l, 0)
			return socks, nil
		},
	}
}

// P8.1, and R4: what comes is in memory of its own; what was handed in, the room behind it included, stays as it is.
func TestOwnMemory(t *testing.T) {
	guardSock, guardMark := guards()
	badSock, badMark := spoilers()
	for name, of := range makers() {
		for _, often := range rows(3, 0, 1, 2) {
			for _, record := range records() {
				l, socks := roomy(shuts(often...), guardSock)
				m, marks := roomy(record, guardMark)
				untouchedSocks, untouchedMarks := slices.Clone(socks), slices.Clone(marks)
				firstSocks, firstMarks := of(l, m)
				secondSocks, secondMarks := of(l, m)
				wantSocks, wantMarks := slices.Clone(secondSocks), slices.Clone(secondMarks)
				spoil(firstSocks, badSock)
				spoil(firstMarks, badMark)
				if !alike(secondSocks, wantSocks) || !alike(secondMarks, wantMarks) || !alike(socks, untouchedSocks) || !alike(marks, untouchedMarks) {
					t.Fatalf("%s of %v: another answer became %v, %v, what was handed in %v, %v", name, often, secondSocks, secondMarks, socks, marks)
				}
				spoil(socks, badSock)
				spoil(marks, badMark)
				if !alike(secondSocks, wantSocks) || !alike(secondMarks, wantMarks) {
					t.Fatalf("%s of %v: what was handed in is kept: %v, %v", name, often, secondSocks, secondMarks)
				}
			}
		}
	}
}

// R4: what is asked of is not changed, and what is told of it is in memory of its own.
func TestAskedOf(t *testing.T) {
	guardSock, guardMark := guards()
	row, record := whole()
	row = append(row, one(3, 2, false), one(4, 0, false))
	l, socks := roomy(row, guardSock)
	m, marks := roomy(record, guardMark)
	numbers, all := roomy([]int{1, 4}, -7)
	live, twice := sock.Live(l), sock.Twice(l)
	for _, told := range [][]int{sock.Live(l), sock.Twice(l)} {
		spoil(told, -9)
	}
	sock.Check(l, m)
	sock.Same(l, l)
	if !sock.IsOpen(l, numbers...) {
		t.Error("not open", numbers)
	}
	if !alike(live, []int{1, 4}) || !alike(twice, []int{2, 3}) {
		t.Error(live, twice)
	}
	if !alike(socks, append(slices.Clone(row), guardSock, guardSock, guardSock)) || !alike(marks, append(slices.Clone(record), guardMark, guardMark, guardMark)) || !alike(all, []int{1, 4, -7, -7, -7}) {
		t.Error(socks, marks, all)
	}
}

// P8.1: two that are opened, shut or dropped of the same ones do not meet.
func TestTwoOfOne(t *testing.T) {
	l, m, _ := sock.Open(nil, nil, address(0), 1, 1)
	l, m, _ = sock.Open(l, m, address(1), 2, 1)
	a, am, _ := sock.Open(l, m, address(2), 3, 2)
	b, bm, _ := sock.Shut(l, m, 0, 3)
	c, cm, _ := sock.Open(l, m, address(4), 5, 4)
	d, _ := sock.Drop(l, 1)
	both := []api.Sock{{Addr: address(0), By: 1, Opened: 1}, {Addr: address(1), By: 2, Opened: 1}}
	if !alike(l, both) || !alike(m, []api.Mark{opening(0, 1), opening(1, 1)}) {
		t.Error(l, m)
	}
	if !alike(a, append(slices.Clone(both), api.Sock{Addr: address(2), By: 3, Opened: 2})) || !alike(am, append(slices.Clone(m), opening(2, 2))) {
		t.Error(a, am)
	}
	if !alike(b, but(both, 0, func(s *api.Sock) { s.Shut = 1 })) || !alike(bm, append(slices.Clone(m), shutting(0, 3))) {
		t.Error(b, bm)
	}
	if !alike(c, append(slices.Clone(both), api.Sock{Addr: address(4), By: 5, Opened: 4})) || !alike(cm, append(slices.Clone(m), opening(2, 4))) {
		t.Error(c, cm)
	}
	if !alike(d, but(both, 1, func(s *api.Sock) { s.Dead = true })) {
		t.Error(d)
	}
	if fmt.Sprint(sock.Check(a, am), sock.Check(b, bm), sock.Check(c, cm), sock.Check(d, m)) != "0 0 0 0" {
		t.Error("they do not go together")
	}
}
