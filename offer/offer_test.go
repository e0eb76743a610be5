package offer_test

import (
	"fmt"
	"slices"
	"strings"
	"testing"

	"switchboard/api"
	"switchboard/duct"
	"switchboard/offer"
)

const (
	mostInt  = int(^uint(0) >> 1)
	leastInt = -mostInt - 1

	// The greatest tick and the greatest Cap, written out, so that the tests do not hang on what they test against.
	last = 1073741824
	most = 64
)

// letter answers the n-th of letters that are all unlike, and of which no field is zero.
func letter(n int) api.Letter {
	return api.Letter{Kind: api.LtAsk + int8(n%7), From: n + 1, Num: -n - 1, Sock: 2*n + 1, Text: fmt.Sprint("letter ", n), E: api.ErrArg}
}

// letters answers n of them, from the from-th on.
func letters(from, n int) []api.Letter {
	var l []api.Letter
	for i := range n {
		l = append(l, letter(from+i))
	}
	return l
}

// one answers an open duct, shut one a closed one, of that Cap and with n letters.
func one(size, n int) api.Duct {
	return api.Duct{Cap: size, In: letters(0, n)}
}

func shut(size, n int) api.Duct {
	return api.Duct{Cap: size, In: letters(0, n), Closed: true}
}

// mayBe are ducts that may be: empty, between, all but full and full ones, open and closed ones.
func mayBe() []api.Duct {
	var l []api.Duct
	for _, size := range []int{0, 1, 2, 3, 5, most - 1, most} {
		for n := range size + 1 {
			if n < 3 || n > size-3 {
				l = append(l, one(size, n), shut(size, n))
			}
		}
	}
	return append(l, api.Duct{In: []api.Letter{}}, api.Duct{In: []api.Letter{}, Closed: true}, api.Duct{Cap: 2, In: letters(0, 2)[:0]})
}

// mayNotBe are ducts that may not be, open and closed ones.
func mayNotBe() []api.Duct {
	var l []api.Duct
	for _, size := range []int{leastInt, leastInt + 1, -most, -2, -1, most + 1, 2 * most, mostInt - 1, mostInt} {
		for _, n := range []int{0, 1, 2, most + 1, 2 * most} {
			l = append(l, one(size, n), shut(size, n))
		}
	}
	for _, size := range []int{0, 1, 2, most} {
		for _, over := range []int{1, 2, most} {
			l = append(l, one(size, size+over), shut(size, size+over))
		}
	}
	return l
}

func all() []api.Duct {
	return append(mayBe(), mayNotBe()...)
}

// tell tells d without its letters.
func tell(d api.Duct) string {
	return fmt.Sprintf("{Cap %d, closed %t, %d letters}", d.Cap, d.Closed, len(d.In))
}

// The cases of a select.
func put(number int, m api.Letter) api.Offer {
	return api.Offer{Kind: api.OfPut, Duct: number, M: m}
}

func take(number int) api.Offer {
	return api.Offer{Kind: api.OfTake, Duct: number}
}

func until(tick int) api.Offer {
	return api.Offer{Kind: api.OfUntil, T: tick}
}

func dialled() api.Offer {
	return api.Offer{Kind: api.OfDial}
}

func looked() api.Offer {
	return api.Offer{Kind: api.OfLook}
}

// met answers the meeting, mets the meetings, told by P, I, Q and J.
func met(l [4]int) api.Meet {
	return api.Meet{P: l[0], I: l[1], Q: l[2], J: l[3]}
}

func mets(l ...[4]int) []api.Meet {
	var o []api.Meet
	for _, one := range l {
		o = append(o, met(one))
	}
	return o
}

// tick says once more which tick n counts as.
func tick(n int) int {
	if n < 0 {
		return 0
	}
	if n > last {
		return last
	}
	return n
}

// ticks are the numbers that matter where a time is handed in.
func ticks() []int {
	return []int{leastInt, leastInt + 1, -last - 1, -last, -2, -1, 0, 1, 2, 3, 1000, last / 2, last - 2, last - 1, last, last + 1, last + 2, 2 * last, mostInt - 1, mostInt}
}

// alone says once more, word by word, whether a case is ready by itself.
func alone(o api.Offer, ducts []api.Duct, clock int, dial, look bool) bool {
	var d api.Duct
	is := o.Duct >= 0 && o.Duct < len(ducts)
	if is {
		d = ducts[o.Duct]
	}
	switch o.Kind {
	case api.OfPut:
		return is && !d.Closed && len(d.In) < d.Cap
	case api.OfTake:
		return is && (len(d.In) > 0 || d.Closed)
	case api.OfUntil:
		return tick(o.T) <= tick(clock)
	case api.OfDial:
		return dial
	case api.OfLook:
		return look
	}
	return false
}

// meet says once more, word by word, whether two cases of unlike goroutines meet.
func meet(a, b api.Offer, ducts []api.Duct) bool {
	if a.Kind != api.OfPut || b.Kind != api.OfTake || a.Duct != b.Duct {
		return false
	}
	for number, d := range ducts {
		if number == a.Duct {
			return d.Cap == 0 && !d.Closed
		}
	}
	return false
}

// scene is what All is asked of.
type scene struct {
	rows       [][]api.Offer
	ducts      []api.Duct
	clock      int
	dial, look []bool
}

func (s scene) all() []api.Meet {
	return offer.All(s.rows, s.ducts, s.clock, s.dial, s.look)
}

// want says once more what is ready: of all that could be told at all, in order, what the words tell of.
func (s scene) want() []api.Meet {
	var l []api.Meet
	for p, row := range s.rows {
		for i, o := range row {
			if alone(o, s.ducts, s.clock, p < len(s.dial) && s.dial[p], p < len(s.look) && s.look[p]) {
				l = append(l, api.Meet{P: p, I: i, Q: -1, J: -1})
			}
			for q, other := range s.rows {
				for j, b := range other {
					if q != p && meet(o, b, s.ducts) {
						l = append(l, api.Meet{P: p, I: i, Q: q, J: j})
					}
				}
			}
		}
	}
	return l
}

func (s scene) String() string {
	var b strings.Builder
	for p, row := range s.rows {
		fmt.Fprintf(&b, "%d:", p)
		for _, o := range row {
			fmt.Fprintf(&b, " {kind %d, duct %d, T %d}", o.Kind, o.Duct, o.T)
		}
		b.WriteString("; ")
	}
	for _, d := range s.ducts {
		b.WriteString(tell(d))
	}
	fmt.Fprintf(&b, "; clock %d, dial %v, look %v", s.clock, s.dial, s.look)
	return b.String()
}

// check holds what All answers against the list that is wanted.
func (s scene) check(t *testing.T, name string, want []api.Meet) {
	t.Helper()
	if got := s.all(); !slices.Equal(got, want) {
		t.Errorf("%s (%s): %v, not %v", name, s, got, want)
	}
}

// P7.1: the edges of what is ready by itself, one by one.
func TestAloneOfEach(t *testing.T) {
	for _, c := range []struct {
		name string
		kind int8
		d    api.Duct
		want bool
	}{
		{"take, a letter in it", api.OfTake, one(2, 1), true},
		{"take, full", api.OfTake, one(2, 2), true},
		{"take, nothing in it", api.OfTake, one(2, 0), false},
		{"take, Cap 0, open", api.OfTake, one(0, 0), false},
		{"take, Cap 0, closed", api.OfTake, shut(0, 0), true},
		{"take, closed, with letters", api.OfTake, shut(2, 1), true},
		{"take, closed, full", api.OfTake, shut(2, 2), true},
		{"take, closed, without letters", api.OfTake, shut(2, 0), true},
		{"take, letters in the room behind In", api.OfTake, api.Duct{Cap: 2, In: letters(0, 2)[:0]}, false},
		{"put, nothing in it", api.OfPut, one(2, 0), true},
		{"put, room for one", api.OfPut, one(2, 1), true},
		{"put, Cap 1, room for one", api.OfPut, one(1, 0), true},
		{"put, full", api.OfPut, one(2, 2), false},
		{"put, Cap 1, full", api.OfPut, one(1, 1), false},
		{"put, MaxCap, room for one", api.OfPut, one(64, 63), true},
		{"put, MaxCap, full", api.OfPut, one(64, 64), false},
		{"put, Cap 0, open", api.OfPut, one(0, 0), false},
		{"put, Cap 0, closed", api.OfPut, shut(0, 0), false},
		{"put, closed, with room", api.OfPut, shut(2, 0), false},
		{"put, closed, room for one", api.OfPut, shut(2, 1), false},
		{"put, closed, full", api.OfPut, shut(2, 2), false},

		// Ducts that may not be: the words hold for them, too.
		{"put, Cap -1", api.OfPut, one(-1, 0), false},
		{"put, Cap -1, with letters", api.OfPut, one(-1, 2), false},
		{"put, the least Cap", api.OfPut, one(leastInt, 0), false},
		{"put, the least Cap, with letters", api.OfPut, one(leastInt, 3), false},
		{"put, more letters than Cap", api.OfPut, one(1, 2), false},
		{"put, Cap 0, with letters", api.OfPut, one(0, 1), false},
		{"put, Cap 65, room for one", api.OfPut, one(65, 64), true},
		{"put, Cap 65, full", api.OfPut, one(65, 65), false},
		{"put, the greatest Cap", api.OfPut, one(mostInt, 2), true},
		{"put, the greatest Cap, closed", api.OfPut, shut(mostInt, 2), false},
		{"take, Cap -1", api.OfTake, one(-1, 0), false},
		{"take, Cap -1, with letters", api.OfTake, one(-1, 2), true},
		{"take, Cap -1, closed", api.OfTake, shut(-1, 0), true},
		{"take, Cap 0, with letters", api.OfTake, one(0, 1), true},
		{"take, more letters than Cap", api.OfTake, one(1, 2), true},
		{"take, the greatest Cap", api.OfTake, one(mostInt, 0), false},
		{"take, the greatest Cap, with letters", api.OfTake, one(mostInt, 1), true},
		{"take, the least Cap, closed", api.OfTake, shut(leastInt, 0), true},
	} {
		for _, other := range []api.Duct{shut(3, 1), one(3, 1), one(0, 0)} {
			for number := range 3 {
				ducts := []api.Duct{other, other, other}
				ducts[number] = c.d
				o := api.Offer{Kind: c.kind, Duct: number, M: letter(4), T: 9}
				if got := offer.Alone(o, ducts, 5, false, false); got != c.want {
					t.Errorf("%s, at %d: %t", c.name, number, got)
				}
			}
		}
	}
}

// P7.1: until: the clock ahead of T, at it, behind it, as they count.
func TestAloneUntil(t *testing.T) {
	for _, c := range []struct {
		tick, clock int
		want        bool
	}{
		{5, 4, false}, {5, 5, true}, {5, 6, true}, {5, 0, false}, {0, 0, true}, {1, 0, false}, {0, 1, true}, {1, 1, true}, {5, last, true},
		{last, last, true}, {last, last - 1, false}, {last - 1, last - 1, true}, {last - 1, last, true}, {last, 0, false},

		// Below 0 it counts as 0, above MaxTick as MaxTick.
		{-1, 0, true}, {0, -1, true}, {-1, -2, true}, {-5, -1, true}, {leastInt, leastInt, true}, {0, leastInt, true}, {leastInt, 0, true}, {1, -1, false}, {1, leastInt, false},
		{last + 1, last, true}, {mostInt, last, true}, {mostInt, last + 1, true}, {mostInt, mostInt, true}, {mostInt, last - 1, false}, {last + 1, last - 1, false}, {last, last + 1, true}, {last, mostInt, true},
		{leastInt, mostInt, true}, {mostInt, leastInt, false}, {mostInt, 0, false}, {last, -1, false},
	} {
		if got := offer.Alone(until(c.tick), nil, c.clock, false, false); got != c.want {
			t.Errorf("until %d, at %d: %t", c.tick, c.clock, got)
		}
	}
	for _, until := range ticks() {
		for _, clock := range ticks() {
			for _, number := range []int{leastInt, -1, 0, 1, mostInt} {
				o := api.Offer{Kind: api.OfUntil, Duct: number, T: until}
				if got, want := offer.Alone(o, []api.Duct{shut(1, 1)}, clock, false, false), tick(clock) >= tick(until); got != want {
					t.Errorf("until %d, at %d: %t", until, clock, got)
				}
			}
		}
	}
}

// P7.1: a dial, a lookup: as it is told, each by itself.
func TestAloneDialAndLook(t *testing.T) {
	for _, dial := range []bool{false, true} {
		for _, look := range []bool{false, true} {
			for _, d := range all() {
				for _, clock := range []int{leastInt, 0, 7, mostInt} {
					if got := offer.Alone(dialled(), []api.Duct{d}, clock, dial, look); got != dial {
						t.Errorf("dial %t, look %t: the dial %t", dial, look, got)
					}
					if got := offer.Alone(looked(), []api.Duct{d}, clock, dial, look); got != look {
						t.Errorf("dial %t, look %t: the lookup %t", dial, look, got)
					}
				}
			}
		}
	}
}

// P7.1: a number that is none's, a kind that is none: never ready, whatever there is.
func TestAloneOfNone(t *testing.T) {
	ducts := []api.Duct{shut(2, 1), shut(0, 0), one(2, 1), one(mostInt, 1)}
	for _, number := range []int{leastInt, leastInt + 1, -last, -5, -2, -1, 4, 5, 6, 100, last, mostInt - 1, mostInt} {
		for _, kind := range []int8{api.OfPut, api.OfTake} {
			o := api.Offer{Kind: kind, Duct: number, M: letter(0)}
			if offer.Alone(o, ducts, mostInt, true, true) {
				t.Errorf("kind %d, duct %d of 4", kind, number)
			}
			for _, none := range [][]api.Duct{nil, {}, ducts[:0]} {
				o.Duct = 0
				if offer.Alone(o, none, mostInt, true, true) {
					t.Errorf("kind %d, no ducts", kind)
				}
			}
		}
	}
	for kind := -128; kind < 128; kind++ {
		if kind >= 0 && kind <= 4 {
			continue
		}
		for number := -1; number < 5; number++ {
			if offer.Alone(api.Offer{Kind: int8(kind), Duct: number}, ducts, mostInt, true, true) {
				t.Errorf("kind %d, duct %d", kind, number)
			}
		}
	}
}

// P7.1: all kinds, all ducts, and everything else that could be looked at.
func TestAloneOfAll(t *testing.T) {
	ducts := all()
	for kind := int8(-2); kind < 8; kind++ {
		for number := -2; number < len(ducts)+2; number++ {
			for _, until := range []int{leastInt, 4, 5, mostInt} {
				for _, dial := range []bool{false, true} {
					for _, look := range []bool{false, true} {
						o := api.Offer{Kind: kind, Duct: number, M: letter(3), T: until}
						if got, want := offer.Alone(o, ducts, 4, dial, look), alone(o, ducts, 4, dial, look); got != want {
							t.Errorf("kind %d, duct %d, until %d, dial %t, look %t: %t", kind, number, until, dial, look, got)
						}
					}
				}
			}
		}
	}
}

// P7.1: who meets whom, one by one.
func TestMeetOfEach(t *testing.T) {
	ducts := []api.Duct{one(0, 0), shut(0, 0), one(1, 0), one(1, 1), one(0, 0), one(64, 0), shut(3, 2), one(-1, 0), one(leastInt, 0), one(mostInt, 0), one(0, 2), {In: []api.Letter{}}}
	for _, c := range []struct {
		name string
		a, b api.Offer
		want bool
	}{
		{"Cap 0, open", put(0, letter(0)), take(0), true},
		{"Cap 0, open, a zero letter", put(0, api.Letter{}), take(0), true},
		{"another one of Cap 0, open", put(4, letter(0)), take(4), true},
		{"an empty list of letters", put(11, letter(0)), take(11), true},
		{"Cap 0, closed", put(1, letter(0)), take(1), false},
		{"Cap 1, with room", put(2, letter(0)), take(2), false},
		{"Cap 1, full", put(3, letter(0)), take(3), false},
		{"MaxCap", put(5, letter(0)), take(5), false},
		{"closed, with letters", put(6, letter(0)), take(6), false},
		{"unlike ducts, both of Cap 0", put(0, letter(0)), take(4), false},
		{"unlike ducts, the other way about", put(4, letter(0)), take(0), false},
		{"the one that takes told first", take(0), put(0, letter(0)), false},
		{"both put", put(0, letter(0)), put(0, letter(1)), false},
		{"both take", take(0), take(0), false},
		{"until for the one that takes", put(0, letter(0)), until(0), false},
		{"until for the one that puts", until(0), take(0), false},
		{"dials", dialled(), dialled(), false},
		{"puts, and a dial", put(0, letter(0)), dialled(), false},
		{"puts, and a lookup", put(0, letter(0)), looked(), false},
		{"a dial, and takes", dialled(), take(0), false},
		{"a lookup, and takes", looked(), take(0), false},
		{"duct -1", put(-1, letter(0)), take(-1), false},
		{"a duct behind all", put(12, letter(0)), take(12), false},
		{"the least number", put(leastInt, letter(0)), take(leastInt), false},
		{"the greatest number", put(mostInt, letter(0)), take(mostInt), false},
		{"a number that is none's, and one that is", put(-1, letter(0)), take(0), false},
		{"Cap -1", put(7, letter(0)), take(7), false},
		{"the least Cap", put(8, letter(0)), take(8), false},
		{"the greatest Cap", put(9, letter(0)), take(9), false},
		{"Cap 0, open, with letters, such as may not be", put(10, letter(0)), take(10), true},
	} {
		if got := offer.Meet(c.a, c.b, ducts); got != c.want {
			t.Errorf("%s: %t", c.name, got)
		}
	}
	for _, none := range [][]api.Duct{nil, {}, ducts[:0]} {
		if offer.Meet(put(0, letter(0)), take(0), none) {
			t.Error("no ducts")
		}
	}
}

// P7.1: cases of all kinds, at all ducts.
func TestMeetOfAll(t *testing.T) {
	ducts := all()
	for a := int8(-2); a < 8; a++ {
		for b := int8(-2); b < 8; b++ {
			for number := -2; number < len(ducts)+2; number++ {
				for _, other := range []int{number, number + 1, 0, -1} {
					x, y := api.Offer{Kind: a, Duct: number, M: letter(1)}, api.Offer{Kind: b, Duct: other, T: 5}
					if got, want := offer.Meet(x, y, ducts), meet(x, y, ducts); got != want {
						t.Errorf("kinds %d and %d, ducts %d and %d: %t", a, b, number, other, got)
					}
				}
			}
		}
	}
}

// P7.2, and the chapter's examples: what is ready, one by one.
func TestAllOfEach(t *testing.T) {
	open, full := one(0, 0), one(1, 1)
	ducts := []api.Duct{open, shut(0, 0), one(1, 0), full, open, shut(2, 1)}
	type rows = [][]api.Offer
	type list = [][4]int
	for _, c := range []struct {
		name       string
		rows       rows
		clock      int
		dial, look []bool
		want       list
	}{
		{"nobody", nil, 0, nil, nil, nil},
		{"nobody, but a dial told", rows{}, 0, []bool{true}, []bool{true}, nil},
		{"all without cases", rows{nil, {}, nil}, 9, []bool{true, true, true}, []bool{true, true, true}, nil},
		{"takes a closed one", rows{{take(1)}}, 0, nil, nil, list{{0, 0, -1, -1}}},
		{"puts, two take", rows{{put(0, letter(0))}, {take(0)}, {take(0)}}, 0, nil, nil, list{{0, 0, 1, 0}, {0, 0, 2, 0}}},
		{"puts, nobody takes", rows{{put(0, letter(0))}, nil}, 0, nil, nil, nil},
		{"takes, nobody puts", rows{{take(0)}, nil}, 0, nil, nil, nil},
		{"takes ahead of who puts", rows{{take(0)}, {put(0, letter(0))}}, 0, nil, nil, list{{1, 0, 0, 0}}},
		{"around who puts", rows{{take(0)}, {put(0, letter(0))}, {take(0)}}, 0, nil, nil, list{{1, 0, 0, 0}, {1, 0, 2, 0}}},
		{"meets nobody but itself", rows{{put(0, letter(0)), take(0)}}, 0, nil, nil, nil},
		{"itself first and last", rows{{take(0), put(0, letter(0)), take(0)}, {take(0)}}, 0, nil, nil, list{{0, 1, 1, 0}}},
		{"both put and take", rows{{put(0, letter(0)), take(0)}, {put(0, letter(1)), take(0)}}, 0, nil, nil, list{{0, 0, 1, 1}, {1, 0, 0, 1}}},
		{"one puts twice, two take twice", rows{{put(0, letter(0)), until(5), put(0, letter(1))}, {take(0), looked(), take(0)}, nil, {take(4), take(0), take(0)}}, 4, nil, nil,
			list{{0, 0, 1, 0}, {0, 0, 1, 2}, {0, 0, 3, 1}, {0, 0, 3, 2}, {0, 2, 1, 0}, {0, 2, 1, 2}, {0, 2, 3, 1}, {0, 2, 3, 2}}},
		{"several put, one takes", rows{{put(0, letter(0))}, {dialled(), put(0, letter(1))}, {take(0)}, {put(0, letter(2)), put(0, letter(2))}}, 0, nil, nil,
			list{{0, 0, 2, 0}, {1, 1, 2, 0}, {3, 0, 2, 0}, {3, 1, 2, 0}}},
		{"two ducts, crosswise", rows{{put(0, letter(0)), take(4)}, {put(4, letter(1)), take(0)}}, 0, nil, nil, list{{0, 0, 1, 1}, {1, 0, 0, 1}}},
		{"at a closed one nobody meets", rows{{put(1, letter(0))}, {take(1)}}, 0, nil, nil, list{{1, 0, -1, -1}}},
		{"with room nobody meets", rows{{put(2, letter(0))}, {take(2)}}, 0, nil, nil, list{{0, 0, -1, -1}}},
		{"at a full one nobody meets", rows{{put(3, letter(0))}, {take(3)}}, 0, nil, nil, list{{1, 0, -1, -1}}},
		{"closed, with letters", rows{{put(5, letter(0))}, {take(5)}, {take(5)}}, 0, nil, nil, list{{1, 0, -1, -1}, {2, 0, -1, -1}}},
		{"case by case", rows{{take(1), put(0, letter(0)), put(2, letter(1)), until(3), take(3)}, {take(0), take(5), until(4)}}, 3, nil, nil,
			list{{0, 0, -1, -1}, {0, 1, 1, 0}, {0, 2, -1, -1}, {0, 3, -1, -1}, {0, 4, -1, -1}, {1, 1, -1, -1}}},
		{"the same case twice", rows{{take(1), take(1), put(2, letter(0)), put(2, letter(0))}}, 0, nil, nil, list{{0, 0, -1, -1}, {0, 1, -1, -1}, {0, 2, -1, -1}, {0, 3, -1, -1}}},
		{"dials and lookups", rows{{dialled(), looked()}, {looked(), dialled()}, {dialled()}, {looked()}}, 0, []bool{true, false, false, true}, []bool{false, true, true, true},
			list{{0, 0, -1, -1}, {1, 0, -1, -1}, {3, 0, -1, -1}}},
		{"told of fewer", rows{{dialled(), looked()}, {dialled(), looked()}, {dialled(), looked()}}, 0, []bool{true}, []bool{true, true}, list{{0, 0, -1, -1}, {0, 1, -1, -1}, {1, 1, -1, -1}}},
		{"told of none", rows{{dialled(), looked()}, {dialled(), looked()}}, 0, nil, []bool{}, nil},
		{"told of more", rows{{dialled()}, {looked()}}, 0, []bool{false, true, true, true}, []bool{true, false, true}, nil},
		{"told of more, and ready", rows{{dialled()}, {looked()}}, 0, []bool{true, true, true}, []bool{true, true, true, true}, list{{0, 0, -1, -1}, {1, 0, -1, -1}}},
		{"told of those without cases", rows{nil, {dialled()}, nil, {looked()}}, 0, []bool{true, false, true, true}, []bool{true, true, true, false}, nil},
		{"until, one tick ahead", rows{{until(4)}}, 3, nil, nil, nil},
		{"until, at it", rows{{until(4)}, {until(5), until(3)}}, 4, nil, nil, list{{0, 0, -1, -1}, {1, 1, -1, -1}}},
		{"until, a clock below 0", rows{{until(0), until(1), until(-9)}}, leastInt, nil, nil, list{{0, 0, -1, -1}, {0, 2, -1, -1}}},
		{"until, a clock above MaxTick", rows{{until(mostInt), until(last)}}, last + 1, nil, nil, list{{0, 0, -1, -1}, {0, 1, -1, -1}}},
		{"numbers that are none's", rows{{put(-1, letter(0)), put(6, letter(0)), put(leastInt, letter(0)), put(mostInt, letter(0))}, {take(-1), take(6), take(leastInt), take(mostInt)}}, 0, nil, nil, nil},
		{"kinds that are none", rows{{{Kind: 5}, {Kind: -1}, {Kind: 127, Duct: 1}, {Kind: -128, Duct: 2}}, {take(0)}}, mostInt, []bool{true, true}, []bool{true, true}, nil},
		{"none's among others", rows{{put(-1, letter(0)), put(0, letter(0)), {Kind: 9}}, {{Kind: 9}, take(6), take(0)}}, 0, nil, nil, list{{0, 1, 1, 2}}},
	} {
		scene{c.rows, ducts, c.clock, c.dial, c.look}.check(t, c.name, mets(c.want...))
	}
	scene{rows{{put(0, letter(0)), take(0), take(1)}, {take(0), until(0)}}, nil, 0, nil, nil}.check(t, "no ducts", mets([4]int{1, 1, -1, -1}))
}

// P7.2: ducts such as may not be: the words hold for them, too.
func TestAllOfOddDucts(t *testing.T) {
	for number, d := range all() {
		ducts := all()
		ducts = append(ducts, d)
		s := scene{rows: [][]api.Offer{{put(number, letter(0)), take(number)}, {take(number), put(number, letter(1))}}, ducts: ducts}
		s.check(t, "at "+tell(d), s.want())
	}
}

// pool answers the cases that scenes are made of.
func pool() []api.Offer {
	return []api.Offer{put(0, letter(0)), take(0), put(1, letter(1)), take(2), until(4), dialled(), looked()}
}

// rowsOf answers all rows of at most most cases out of l.
func rowsOf(l []api.Offer, most int) [][]api.Offer {
	rows := [][]api.Offer{nil}
	from := 0
	for range most {
		to := len(rows)
		for _, row := range rows[from:to] {
			for _, o := range l {
				rows = append(rows, append(slices.Clone(row), o))
			}
		}
		from = to
	}
	return rows
}

// scenes goes over many scenes: three goroutines, of each all rows of at most two cases.
func scenes(yield func(scene) bool) {
	ducts := []api.Duct{one(0, 0), one(1, 0), shut(1, 0)}
	told := [][]bool{nil, {true}, {false, true}, {true, true, true}, {false, false, true, true}}
	n := 0
	rows := rowsOf(pool(), 2)
	for _, a := range rows {
		for _, b := range rows {
			for _, c := range rows {
				n++
				if !yield(scene{[][]api.Offer{a, b, c}, ducts, n%3 + 3, told[n%5], told[n/5%5]}) {
					return
				}
			}
		}
	}
}

// P7.2: many scenes, against the words said once more.
func TestAllOfAll(t *testing.T) {
	for s := range scenes {
		if got, want := s.all(), s.want(); !slices.Equal(got, want) {
			t.Fatalf("%s: %v, not %v", s, got, want)
		}
	}
}

// P7.2: two goroutines in three cases each at one duct, and one without any between them.
func TestAllAtOneDuct(t *testing.T) {
	rows := rowsOf([]api.Offer{put(0, letter(0)), take(0), put(1, letter(1)), take(1)}, 3)
	for _, ducts := range [][]api.Duct{{one(0, 0), one(0, 0)}, {one(0, 0), one(1, 1)}, {shut(0, 0), one(0, 0)}, {one(0, 0)}} {
		for _, a := range rows {
			for _, b := range rows {
				s := scene{rows: [][]api.Offer{a, nil, b}, ducts: ducts}
				if got, want := s.all(), s.want(); !slices.Equal(got, want) {
					t.Fatalf("%s: %v, not %v", s, got, want)
				}
			}
		}
	}
}

// P7.2: very many goroutines, and very many cases of one: all is told, and in order.
func TestAllOfMany(t *testing.T) {
	const many = 1 << 15
	rows := make([][]api.Offer, 2*many)
	ducts := make([]api.Duct, many)
	var want []api.Meet
	for k := range many {
		rows[k] = []api.Offer{take(many - 1 - k), put(k, letter(k))}
		rows[many+k] = []api.Offer{until(1), take(k)}
		pairs := []api.Meet{{P: k, I: 1, Q: many - 1 - k}, {P: k, I: 1, Q: many + k, J: 1}}
		want = append(want, pairs...)
	}
	s := scene{rows: rows, ducts: ducts}
	if got := s.all(); !slices.Equal(got, want) {
		t.Errorf("many goroutines: %d, not %d", len(got), len(want))
	}
	const cases = 1 << 12
	var crowd []api.Offer
	for range cases {
		crowd = append(crowd, take(0), put(0, letter(0)))
	}
	s = scene{rows: [][]api.Offer{crowd, nil}, ducts: ducts[:1]}
	s.check(t, "many cases of one", nil)
	s.rows[1] = []api.Offer{take(0)}
	if got := s.all(); len(got) != cases || got[0] != (api.Meet{I: 1, Q: 1}) || got[cases-1] != (api.Meet{I: 2*cases - 1, Q: 1}) {
		t.Errorf("many cases that meet one: %d", len(got))
	}
}

// unlike are meetings of which each two differ, some of them in just one field.
func unlike() []api.Meet {
	l := [][4]int{{0, 0, -1, -1}, {0, 0, 0, 0}, {1, 0, 0, 0}, {0, 1, 0, 0}, {0, 0, 1, 0}, {0, 0, 0, 1}, {-1, api.EvTick, -1, -1}, {-1, api.EvDrop, -1, -1}, {-1, api.EvBegin, -1, -1}}
	for _, n := range []int{leastInt, mostInt} {
		l = append(l, [][4]int{{n, 0, 0, 0}, {0, n, 0, 0}, {0, 0, n, 0}, {0, 0, 0, n}, {n, n, n, n}}...)
	}
	return mets(l...)
}

// P7.2: is one of none, of one, of several.
func TestIs(t *testing.T) {
	l := unlike()
	for i, m := range l {
		if offer.Is(m) || offer.Is(m, []api.Meet{}...) {
			t.Errorf("%v is one of none", m)
		}
		for j, other := range l {
			if got := offer.Is(m, other); got != (i == j) {
				t.Errorf("%v of %v: %t", m, other, got)
			}
		}
		others := slices.Delete(slices.Clone(l), i, i+1)
		if offer.Is(m, others...) {
			t.Errorf("%v is one of the others", m)
		}
		for place := range others {
			if with := slices.Insert(slices.Clone(others), place, m); !offer.Is(m, with...) || !offer.Is(m, with[:place+1]...) || offer.Is(m, with[:place]...) {
				t.Errorf("%v at %d", m, place)
			}
		}
		if !offer.Is(m, m, m) || !offer.Is(m, append(others, m)...) {
			t.Errorf("%v twice, and last", m)
		}
	}
}

// P7.2: the one at the place that n is, and around, ahead of 0 as well as behind it.
func TestPick(t *testing.T) {
	l := unlike()[:3]
	for _, c := range []struct{ n, place int }{
		{0, 0}, {1, 1}, {2, 2}, {3, 0}, {4, 1}, {5, 2}, {6, 0}, {300, 0}, {301, 1}, {302, 2},
		{-1, 2}, {-2, 1}, {-3, 0}, {-4, 2}, {-5, 1}, {-6, 0}, {-7, 2}, {-300, 0}, {-301, 2}, {-302, 1},
		{mostInt, mostInt % 3}, {mostInt - 1, (mostInt - 1) % 3}, {mostInt - 2, (mostInt - 2) % 3},
	} {
		if m, e := offer.Pick(c.n, l...); m != l[c.place] || e != api.OK {
			t.Errorf("%d: %v, %d", c.n, m, e)
		}
	}
	for size := 1; size <= len(unlike()); size++ {
		l := unlike()[:size]
		around := slices.Repeat(l, 6)
		for n := -3 * size; n < 3*size; n++ {
			if m, e := offer.Pick(n, l...); m != around[n+3*size] || e != api.OK {
				t.Errorf("%d of %d: %v, %d", n, size, m, e)
			}
		}
	}
	for _, n := range []int{leastInt, -1, 0, 1, 2, mostInt} {
		for _, none := range [][]api.Meet{nil, {}, unlike()[:0]} {
			if m, e := offer.Pick(n, none...); m != (api.Meet{}) || e != api.ErrMeet {
				t.Errorf("%d of none: %v, %d", n, m, e)
			}
		}
	}
}

// P7.2: a number and the same one plus how many there are tell the same place, from the least number to the greatest one; one more tells the next place.
func TestPickAround(t *testing.T) {
	for size := 1; size <= len(unlike()); size++ {
		l := unlike()[:size]
		for _, n := range []int{leastInt, leastInt + 1, leastInt + 2, leastInt / 2, -last - 1, -last, -2 * size, -size - 1, -size, -size + 1, -2, -1, 0, 1, last, mostInt/2 - 1, mostInt - size - 1, mostInt - size} {
			m, e := offer.Pick(n, l...)
			far, e2 := offer.Pick(n+size, l...)
			if m != far || e != api.OK || e2 != api.OK {
				t.Errorf("%d of %d: %v, %d; %d further: %v, %d", n, size, m, e, size, far, e2)
			}
			next, _ := offer.Pick(n+1, l...)
			if want := (slices.Index(l, m) + 1) % size; next != l[want] {
				t.Errorf("%d of %d: %v, and the next one %v", n, size, m, next)
			}
		}
	}
	// The least number is -2^63: places worked out by hand.
	for _, c := range []struct{ n, size, place int }{
		{leastInt, 1, 0}, {leastInt, 2, 0}, {leastInt + 1, 2, 1}, {leastInt, 4, 0}, {leastInt + 3, 4, 3}, {leastInt, 8, 0}, {leastInt + 7, 8, 7}, {leastInt, 9, 1}, {leastInt + 1, 9, 2},
	} {
		l := unlike()[:c.size]
		if m, e := offer.Pick(c.n, l...); m != l[c.place] || e != api.OK {
			t.Errorf("%d of %d: %v, %d", c.n, c.size, m, e)
		}
	}
}

// P7.2: whatever is picked of what is ready is one of it, and each can be picked.
func TestPickOfAll(t *testing.T) {
	s := scene{rows: [][]api.Offer{{put(0, letter(0)), take(1)}, {take(0), take(0)}, {until(0), take(0)}}, ducts: []api.Duct{one(0, 0), shut(0, 0)}}
	l := s.all()
	if len(l) != 5 {
		t.Fatal(l)
	}
	for n := range l {
		m, e := offer.Pick(n, l...)
		if e != api.OK || m != l[n] || !offer.Is(m, l...) {
			t.Errorf("%d: %v, %d", n, m, e)
		}
	}
}

// P7.3: what is handed over, and what is not, one by one.
func TestLetterOfEach(t *testing.T) {
	rows := [][]api.Offer{
		{put(0, letter(0)), until(3), put(4, letter(1)), put(0, api.Letter{})},
		{take(0), take(4), put(0, letter(2))},
		nil,
		{looked(), take(0), dialled(), {Kind: 9}, {Kind: -1}},
		{put(-1, letter(3)), take(3)},
		{take(-1)},
	}
	for _, c := range []struct {
		name string
		m    [4]int
		want api.Letter
		ok   bool
	}{
		{"the first cases", [4]int{0, 0, 1, 0}, letter(0), true},
		{"another one that takes", [4]int{0, 0, 3, 1}, letter(0), true},
		{"another duct", [4]int{0, 2, 1, 1}, letter(1), true},
		{"a zero letter", [4]int{0, 3, 1, 0}, api.Letter{}, true},
		{"who takes ahead of who puts", [4]int{1, 2, 3, 1}, letter(2), true},
		{"unlike ducts", [4]int{0, 0, 1, 1}, api.Letter{}, false},
		{"unlike ducts, the other way about", [4]int{0, 2, 1, 0}, api.Letter{}, false},
		{"a number that is none's, and another", [4]int{4, 0, 1, 0}, api.Letter{}, false},
		{"the one that takes told first", [4]int{1, 0, 0, 0}, api.Letter{}, false},
		{"both put", [4]int{0, 0, 1, 2}, api.Letter{}, false},
		{"both take", [4]int{1, 0, 3, 1}, api.Letter{}, false},
		{"puts, and until", [4]int{1, 2, 0, 1}, api.Letter{}, false},
		{"puts, and a lookup", [4]int{0, 0, 3, 0}, api.Letter{}, false},
		{"puts, and a dial", [4]int{0, 0, 3, 2}, api.Letter{}, false},
		{"puts, and kinds that are none", [4]int{0, 0, 3, 3}, api.Letter{}, false},
		{"puts, and another kind that is none", [4]int{0, 0, 3, 4}, api.Letter{}, false},
		{"until, and takes", [4]int{0, 1, 1, 0}, api.Letter{}, false},
		{"a lookup, and takes", [4]int{3, 0, 1, 0}, api.Letter{}, false},
		{"a dial, and takes", [4]int{3, 2, 1, 0}, api.Letter{}, false},
		{"by itself", [4]int{0, 0, -1, -1}, api.Letter{}, false},
		{"a tick", [4]int{-1, api.EvTick, -1, -1}, api.Letter{}, false},
		{"a beginning", [4]int{-1, api.EvBegin, -1, -1}, api.Letter{}, false},
		{"Q without cases", [4]int{0, 0, 2, 0}, api.Letter{}, false},
		{"P without cases", [4]int{2, 0, 1, 0}, api.Letter{}, false},
		{"a zero meeting", [4]int{}, api.Letter{}, false},
		{"the same case twice", [4]int{1, 0, 1, 0}, api.Letter{}, false},
	} {
		if m, ok := offer.Letter(met(c.m), rows); m != c.want || ok != c.ok {
			t.Errorf("%s: %v, %t", c.name, m, ok)
		}
	}
}

// P7.3: a P, an I, a Q, a J that names none.
func TestLetterOfNone(t *testing.T) {
	rows := [][]api.Offer{{put(0, letter(0))}, {take(0)}, {put(0, letter(1)), take(0)}, {take(0), put(0, letter(2))}}
	good := mets([][4]int{{0, 0, 1, 0}, {2, 0, 1, 0}, {0, 0, 2, 1}, {3, 1, 2, 1}}...)
	for _, m := range good {
		if got, ok := offer.Letter(m, rows); !ok || got != rows[m.P][m.I].M {
			t.Errorf("%v: %v, %t", m, got, ok)
		}
		for _, n := range []int{leastInt, leastInt + 1, -last, -2, -1, 4, 5, 100, last, mostInt - 1, mostInt} {
			for _, bad := range [][4]int{{n, m.I, m.Q, m.J}, {m.P, n, m.Q, m.J}, {m.P, m.I, n, m.J}, {m.P, m.I, m.Q, n}, {n, n, m.Q, m.J}, {m.P, m.I, n, n}, {n, n, n, n}} {
				if got, ok := offer.Letter(met(bad), rows); ok || got != (api.Letter{}) {
					t.Errorf("%v: %v, %t", bad, got, ok)
				}
			}
		}
		for _, none := range [][][]api.Offer{nil, {}, {nil, nil, nil, nil}, {{}, {}, {}, {}}, rows[:0]} {
			if got, ok := offer.Letter(m, none); ok || got != (api.Letter{}) {
				t.Errorf("%v of nobody: %v, %t", m, got, ok)
			}
		}
	}
	// A case just behind the row's last one, and one in the room behind it.
	puts, takes := []api.Offer{put(0, letter(0)), put(0, letter(1))}, []api.Offer{take(0), take(0)}
	roomy := [][]api.Offer{puts[:1], takes[:1], takes}[:2]
	for _, bad := range [][4]int{{0, 1, 1, 0}, {0, 0, 1, 1}, {0, 0, 2, 0}} {
		if got, ok := offer.Letter(met(bad), roomy); ok || got != (api.Letter{}) {
			t.Errorf("%v: %v, %t", bad, got, ok)
		}
	}
}

// P7.3: of all that could be told of three goroutines: true just for a case that puts, and one that takes out of the same duct, whatever duct that is, and whosever.
func TestLetterOfAll(t *testing.T) {
	rows := [][]api.Offer{append(pool(), take(1)), append(pool(), put(2, letter(5))), {take(0), take(1), take(2), {Kind: 7}}}
	for p := -1; p <= len(rows); p++ {
		for q := -1; q <= len(rows); q++ {
			for i := -1; i < 9; i++ {
				for j := -1; j < 9; j++ {
					m := api.Meet{P: p, I: i, Q: q, J: j}
					var want api.Letter
					is := false
					if p >= 0 && p < 3 && q >= 0 && q < 3 && i >= 0 && i < len(rows[p]) && j >= 0 && j < len(rows[q]) {
						a, b := rows[p][i], rows[q][j]
						is = a.Kind == api.OfPut && b.Kind == api.OfTake && a.Duct == b.Duct
						if is {
							want = a.M
						}
					}
					if got, ok := offer.Letter(m, rows); got != want || ok != is {
						t.Errorf("%v: %v, %t", m, got, ok)
					}
				}
			}
		}
	}
}

// P7.2, P7.3: wherever All tells of two, their letter is handed over; wherever of one, none is.
func TestLettersOfReady(t *testing.T) {
	n := 0
	for s := range scenes {
		n++
		if n%7 > 0 {
			continue
		}
		for _, m := range s.all() {
			got, ok := offer.Letter(m, s.rows)
			if two := m.Q >= 0; ok != two || two && got != s.rows[m.P][m.I].M || !two && got != (api.Letter{}) {
				t.Fatalf("%s: %v: %v, %t", s, m, got, ok)
			}
		}
	}
}

// P7.4: nobody meets itself, what is ready is told once, who has no cases is in nothing; each is ready by the calls on a single case.
func TestToldOnce(t *testing.T) {
	for s := range scenes {
		told := map[api.Meet]bool{}
		for _, m := range s.all() {
			if told[m] || m.P == m.Q || m.P < 0 || len(s.rows[m.P]) == 0 || m.Q >= 0 && len(s.rows[m.Q]) == 0 {
				t.Fatalf("%s: %v", s, m)
			}
			told[m] = true
			o := s.rows[m.P][m.I]
			if m.Q < 0 && !offer.Alone(o, s.ducts, s.clock, m.P < len(s.dial) && s.dial[m.P], m.P < len(s.look) && s.look[m.P]) {
				t.Fatalf("%s: %v is not ready by itself", s, m)
			}
			if m.Q >= 0 && !offer.Meet(o, s.rows[m.Q][m.J], s.ducts) {
				t.Fatalf("%s: %v do not meet", s, m)
			}
		}
	}
}

// P7.4: with a clock that is later what is ready stays ready.
func TestLaterStaysReady(t *testing.T) {
	rows := [][]api.Offer{{put(0, letter(0)), until(0), until(1), until(-1), looked()}, {until(2), take(0), until(last - 1), take(1)}, {until(last), until(last + 1), until(mostInt), until(leastInt), dialled()}}
	s := scene{rows: rows, ducts: []api.Duct{one(0, 0), shut(0, 0)}, dial: []bool{true, true, true}}
	var before []api.Meet
	for _, clock := range ticks() {
		s.clock = clock
		now := s.all()
		for _, m := range before {
			if !offer.Is(m, now...) {
				t.Errorf("%v is not ready any more at %d", m, clock)
			}
		}
		before = now
	}
	if len(before) != 12 {
		t.Errorf("at last: %v", before)
	}
}

// P7.4: with one goroutine more all that was ready is, in the order in which it was.
func TestOneMore(t *testing.T) {
	more := [][]api.Offer{nil, {take(0)}, {put(0, letter(8)), take(0), take(2)}, {dialled(), until(0), looked()}, {{Kind: 9}, take(-1)}}
	n := 0
	for s := range scenes {
		n++
		if n%11 > 0 {
			continue
		}
		was := s.all()
		o := s
		o.rows = append(slices.Clone(s.rows), more[n/11%len(more)])
		now := o.all()
		still := slices.DeleteFunc(slices.Clone(now), func(m api.Meet) bool { return m.P == len(s.rows) || m.Q == len(s.rows) })
		if !slices.Equal(was, still) || !slices.Equal(now, o.want()) {
			t.Fatalf("%s: %v, with one more %v", o, was, now)
		}
	}
}

// spare answers l with room behind it, and all of what it stands in.
func spare[T any](l []T, behind T) (front, whole []T) {
	whole = append(slices.Clone(l), behind, behind)
	return whole[:len(l)], whole
}

// P7.2, and R3, R4: what is handed in stays as it is, the room behind it included, and isn't kept; each answer is in memory of its own.
func TestOwnMemory(t *testing.T) {
	build := func() (scene, [][]api.Offer, []api.Duct, []bool) {
		row, _ := spare([]api.Offer{put(0, letter(0)), dialled(), take(2)}, take(3))
		rows, allRows := spare([][]api.Offer{row, {take(0), until(2)}, nil}, []api.Offer{take(0)})
		in, _ := spare(letters(0, 1), letter(9))
		ducts, allDucts := spare([]api.Duct{one(0, 0), one(1, 0), {Cap: 2, In: in}}, shut(1, 1))
		told, allTold := spare([]bool{true, false}, true)
		return scene{rows, ducts, 2, told, told}, allRows, allDucts, allTold
	}
	s, rows, ducts, told := build()
	_, sameRows, sameDucts, sameTold := build()
	first, second := s.all(), s.all()
	want := mets([][4]int{{0, 0, 1, 0}, {0, 1, -1, -1}, {0, 2, -1, -1}, {1, 1, -1, -1}}...)
	if !slices.Equal(first, want) || !slices.Equal(second, want) {
		t.Fatal(first, second)
	}
	for i := range first {
		first[i] = api.Meet{P: 99}
	}
	_ = append(first, api.Meet{P: 98})
	if third := s.all(); !slices.Equal(second, want) || !slices.Equal(third, want) {
		t.Error("another answer became", second, third)
	}
	offer.Alone(s.rows[0][2], s.ducts, 2, true, true)
	offer.Meet(s.rows[0][0], s.rows[1][0], s.ducts)
	if m, ok := offer.Letter(want[0], s.rows); m != letter(0) || !ok {
		t.Error(m, ok)
	}
	if !slices.EqualFunc(rows, sameRows, func(a, b []api.Offer) bool { return slices.Equal(a[:cap(a)], b[:cap(b)]) }) || !slices.EqualFunc(ducts, sameDucts, duct.Same) || !slices.Equal(told, sameTold) {
		t.Error("what was handed in is changed")
	}
	if in := s.ducts[2].In; !slices.Equal(in[:cap(in)], append(letters(0, 1), letter(9), letter(9))[:cap(in)]) {
		t.Error("letters that were handed in are changed")
	}
	rows[1][0], ducts[0], told[0] = until(0), shut(1, 1), false
	if !slices.Equal(second, want) {
		t.Error("what was handed in is kept:", second)
	}
}

// P7.2, and R4: picks are not changed, and not kept.
func TestPicksOwnMemory(t *testing.T) {
	l, whole := spare(unlike(), api.Meet{P: 77})
	same := slices.Clone(whole)
	for n := range l {
		m, _ := offer.Pick(n, l...)
		if !offer.Is(m, l...) || offer.Is(api.Meet{P: 77}, l...) || !slices.Equal(whole, same) {
			t.Fatalf("%d: %v, %v", n, m, whole)
		}
	}
}
