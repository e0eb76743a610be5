package world_test

import (
	"fmt"
	"reflect"
	"slices"
	"strings"
	"testing"

	"switchboard/addr"
	"switchboard/api"
	"switchboard/plan"
	"switchboard/sock"
	"switchboard/world"
)

const (
	mostInt  = int(^uint(0) >> 1)
	leastInt = -mostInt - 1

	// Fates and limits, written out, so that the tests do not hang on what they test against.
	ok        = int8(0)
	refused   = int8(1)
	hangs     = int8(2)
	mostAddrs = 16
	mostTicks = 200
)

// address answers the n-th of addresses that are all unlike.
func address(n int) api.Addr {
	if n%2 == 0 {
		return api.Addr{Fam: 4, G: [8]uint16{258, uint16(n)}, Port: 80}
	}
	return api.Addr{Fam: 6, G: [8]uint16{1, 2, 3, 4, 5, 6, 7, uint16(n)}, Port: 80}
}

// addresses answers the first many of them.
func addresses(many int) []api.Addr {
	l := []api.Addr{}
	for n := range many {
		l = append(l, address(n))
	}
	return l
}

// numbers are such as may be handed in for who does something, and for sockets.
func numbers() []int {
	return []int{leastInt, leastInt + 1, -100, -2, -1, 0, 1, 2, 3, 4, 7, 100, 1 << 30, mostInt - 1, mostInt}
}

// events is a plan that may be, with some of everything: address 0 has three fates, 1 hangs, 2 is good, 3 refuses, all others have none.
func events() api.Plan {
	return api.Plan{
		Zones: []api.Zone{
			{Name: "wien", Answers: [][]api.Addr{{address(0), address(1)}, {address(1)}, {address(2), address(3), address(0)}}},
			{Name: "graz", Answers: [][]api.Addr{{address(3)}, nil}},
			{Name: "linz", Answers: [][]api.Addr{{}}},
		},
		Fates: []api.Fates{
			{Addr: address(0), L: []int8{ok, hangs, refused}},
			{Addr: address(1), L: []int8{hangs}},
			{Addr: address(2), L: []int8{ok}},
			{Addr: address(3), L: []int8{refused}},
		},
		Ticks: 5,
		Drops: []int{1, 0, 7, 0},
	}
}

// begun answers a world of events(), in which nothing has gone on.
func begun() api.World {
	return api.World{Plan: events()}
}

// busy answers a world such as calls make, with several of everything.
func busy() api.World {
	return api.World{
		Plan:  events(),
		Clock: 3,
		Socks: []api.Sock{
			{Addr: address(0), By: 10, Opened: 1, Shut: 1, Dead: true},
			{Addr: address(2), By: 12, Opened: 2},
		},
		Dials: []api.Dial{
			{By: 10, Addr: address(0), Fate: ok, Over: true},
			{By: 11, Addr: address(1), Fate: hangs},
			{By: 12, Addr: address(2), Fate: ok, Cut: true, Over: true},
			{By: 13, Addr: address(0), Fate: hangs, Cut: true},
			{By: 14, Addr: address(3), Fate: refused},
			{By: 15, Addr: address(2), Fate: ok},
		},
		Looks: []api.Look{
			{By: 20, Name: "wien", Over: true},
			{By: 21, Name: "graz"},
			{By: 22, Name: "wien", Nth: 1},
		},
		Dropped: 2,
		Marks: []api.Mark{
			{Sock: 0, At: 1},
			{Sock: 1, At: 2},
			{Shut: true, Sock: 0, At: 3},
		},
	}
}

// copied answers w in memory of its own, at each depth; lists of nothing and none stay what they are.
func copied(w api.World) api.World {
	w.Plan = copiedPlan(w.Plan)
	w.Socks = slices.Clone(w.Socks)
	w.Dials = slices.Clone(w.Dials)
	w.Looks = slices.Clone(w.Looks)
	w.Marks = slices.Clone(w.Marks)
	return w
}

func copiedPlan(p api.Plan) api.Plan {
	p.Zones = slices.Clone(p.Zones)
	for i := range p.Zones {
		p.Zones[i].Answers = slices.Clone(p.Zones[i].Answers)
		for k := range p.Zones[i].Answers {
			p.Zones[i].Answers[k] = slices.Clone(p.Zones[i].Answers[k])
		}
	}
	p.Fates = slices.Clone(p.Fates)
	for i := range p.Fates {
		p.Fates[i].L = slices.Clone(p.Fates[i].L)
	}
	p.Drops = slices.Clone(p.Drops)
	return p
}

// but answers a world with a change.
func but(w api.World, change func(w *api.World)) api.World {
	w = copied(w)
	change(&w)
	return w
}

// alike tells whether a and b are the same, by the language's own means: no list of nothing counts as unlike none.
func alike(a, b api.World) bool {
	return slices.Equal(a.Socks, b.Socks) && slices.Equal(a.Dials, b.Dials) && slices.Equal(a.Looks, b.Looks) && slices.Equal(a.Marks, b.Marks) &&
		a.Clock == b.Clock && a.Dropped == b.Dropped && reflect.DeepEqual(slim(a.Plan), slim(b.Plan))
}

// slim answers p with none instead of each list of nothing.
func slim(p api.Plan) api.Plan {
	p = copiedPlan(p)
	for i := range p.Zones {
		for k := range p.Zones[i].Answers {
			p.Zones[i].Answers[k] = append([]api.Addr(nil), p.Zones[i].Answers[k]...)
		}
		p.Zones[i].Answers = append([][]api.Addr(nil), p.Zones[i].Answers...)
	}
	for i := range p.Fates {
		p.Fates[i].L = append([]int8(nil), p.Fates[i].L...)
	}
	return api.Plan{
		Zones: append([]api.Zone(nil), p.Zones...), Fates: append([]api.Fates(nil), p.Fates...),
		Drops: append([]int(nil), p.Drops...), Ticks: p.Ticks,
	}
}

// is asks that got is want.
func is(t *testing.T, what string, got, want api.World) {
	t.Helper()
	if !alike(got, want) {
		t.Errorf("%s:\n%+v, not\n%+v", what, got, want)
	}
}

// behind asks that got is want, and that its error is OK.
func behind(t *testing.T, what string, want api.World) func(got api.World, e api.Errno) {
	t.Helper()
	return func(got api.World, e api.Errno) {
		t.Helper()
		is(t, what, got, want)
		if e != api.OK {
			t.Errorf("%s: error %d", what, e)
		}
	}
}

// barred asks that got is w, as it was, and that its error is that one.
func barred(t *testing.T, what string, w api.World, want api.Errno) func(got api.World, e api.Errno) {
	t.Helper()
	return func(got api.World, e api.Errno) {
		t.Helper()
		is(t, what, got, w)
		if e != want {
			t.Errorf("%s: error %d, not %d", what, e, want)
		}
	}
}

// told asks that got is want, with that letter, and that its error is OK.
func told(t *testing.T, what string, want api.World, letter api.Letter) func(got api.World, m api.Letter, e api.Errno) {
	t.Helper()
	return func(got api.World, m api.Letter, e api.Errno) {
		t.Helper()
		is(t, what, got, want)
		if m != letter || e != api.OK {
			t.Errorf("%s: %+v, error %d, not %+v", what, m, e, letter)
		}
	}
}

// untold asks that got is w, as it was, with no letter, and that its error is that one.
func untold(t *testing.T, what string, w api.World, want api.Errno) func(got api.World, m api.Letter, e api.Errno) {
	t.Helper()
	return func(got api.World, m api.Letter, e api.Errno) {
		t.Helper()
		is(t, what, got, w)
		if m != (api.Letter{}) || e != want {
			t.Errorf("%s: %+v, error %d, not %d", what, m, e, want)
		}
	}
}

// must answers the world of a call whose error is OK.
func must(t *testing.T) func(w api.World, e api.Errno) api.World {
	t.Helper()
	return func(w api.World, e api.Errno) api.World {
		t.Helper()
		if e != api.OK {
			t.Fatal("error", e)
		}
		return w
	}
}

// ended answers the world and the letter of a call whose error is OK.
func ended(t *testing.T) func(w api.World, m api.Letter, e api.Errno) (api.World, api.Letter) {
	t.Helper()
	return func(w api.World, m api.Letter, e api.Errno) (api.World, api.Letter) {
		t.Helper()
		if e != api.OK {
			t.Fatal("error", e)
		}
		return w, m
	}
}

// The errors' numbers, as the chapter tells them, and the kinds of letters.
func TestErrors(t *testing.T) {
	got := []api.Errno{api.ErrAddr, api.ErrMeet, api.ErrSocket, api.ErrPlan, api.ErrDial, api.ErrLookup, api.ErrNoName, api.ErrRefused, api.OK}
	if want := []api.Errno{20, 70, 80, 90, 100, 101, 110, 160, 0}; !slices.Equal(got, want) {
		t.Error(got)
	}
	if api.FtOK != ok || api.FtRefused != refused || api.FtHangs != hangs {
		t.Error(api.FtOK, api.FtRefused, api.FtHangs)
	}
}

// P10.1: a world of a plan that may be has nothing in it, and its clock is 0.
func TestNew(t *testing.T) {
	most := api.Plan{Ticks: mostTicks, Drops: make([]int, 16)}
	for range 8 {
		most.Zones = append(most.Zones, api.Zone{Name: strings.Repeat("a", len(most.Zones)+1), Answers: make([][]api.Addr, 32)})
	}
	for n := range 32 {
		most.Fates = append(most.Fates, api.Fates{Addr: address(n), L: make([]int8, 32)})
	}
	for what, p := range map[string]api.Plan{
		"nothing": {}, "lists of nothing": {Zones: []api.Zone{}, Fates: []api.Fates{}, Drops: []int{}},
		"some": events(), "as much as there may be": most, "ticks alone": {Ticks: 1}, "a drop alone": {Drops: []int{mostInt}},
	} {
		behind(t, what, api.World{Plan: p})(world.New(p))
	}
}

// P10.1: of a plan that may not be there is no world.
func TestNewOfWrongPlans(t *testing.T) {
	for what, change := range map[string]func(p *api.Plan){
		"ticks below 0":             func(p *api.Plan) { p.Ticks = -1 },
		"too many ticks":            func(p *api.Plan) { p.Ticks = mostTicks + 1 },
		"the least ticks":           func(p *api.Plan) { p.Ticks = leastInt },
		"a drop below 0":            func(p *api.Plan) { p.Drops[3] = -1 },
		"too many drops":            func(p *api.Plan) { p.Drops = make([]int, 17) },
		"a name twice":              func(p *api.Plan) { p.Zones[1].Name = "wien" },
		"a name that is not folded": func(p *api.Plan) { p.Zones[1].Name = "Graz" },
		"a zone without answers":    func(p *api.Plan) { p.Zones[1].Answers = nil },
		"no address in an answer":   func(p *api.Plan) { p.Zones[0].Answers[0][1].Port = 0 },
		"an address twice":          func(p *api.Plan) { l := p.Zones[0].Answers[0]; l[1] = l[0] },
		"an address has two rows":   func(p *api.Plan) { p.Fates[1].Addr = p.Fates[0].Addr },
		"a row without fates":       func(p *api.Plan) { p.Fates[1].L = nil },
		"a fate that is none":       func(p *api.Plan) { p.Fates[0].L[2] = 3 },
		"a fate below all others":   func(p *api.Plan) { p.Fates[0].L[2] = -1 },
	} {
		p := events()
		change(&p)
		w, e := world.New(p)
		if e != api.ErrPlan || !reflect.DeepEqual(w, api.World{}) {
			t.Errorf("%s: %+v, error %d", what, w, e)
		}
	}
}

// P10.1: the clock goes on as long as it is below the plan's Ticks, whatever both are.
func TestTick(t *testing.T) {
	for _, ticks := range append(numbers(), 5, mostTicks) {
		for _, clock := range append(numbers(), 5, 6, mostTicks-1, mostTicks, mostTicks+1) {
			w := but(busy(), func(w *api.World) { w.Clock, w.Plan.Ticks = clock, ticks })
			what := fmt.Sprintf("clock %d, ticks %d", clock, ticks)
			if clock < ticks {
				behind(t, what, but(w, func(w *api.World) { w.Clock = clock + 1 }))(world.Tick(w))
			} else {
				barred(t, what, w, api.ErrMeet)(world.Tick(w))
			}
		}
	}
}

// P10.1: one tick behind the other, then none any more.
func TestTicks(t *testing.T) {
	for _, ticks := range []int{0, 1, 2, 5, mostTicks} {
		p := events()
		p.Ticks = ticks
		w := must(t)(world.New(p))
		for n := range ticks {
			w = must(t)(world.Tick(w))
			is(t, fmt.Sprint("tick ", n), w, api.World{Plan: p, Clock: n + 1})
		}
		for range 3 {
			barred(t, "behind the last one", api.World{Plan: p, Clock: ticks}, api.ErrMeet)(world.Tick(w))
		}
	}
}

// socks are an open one, one that was shut, one that is dead and open, one that is dead and was shut, one that was shut below 0 times.
func socks() []api.Sock {
	return []api.Sock{
		{Addr: address(0), By: 1, Opened: 1},
		{Addr: address(1), By: 2, Opened: 2, Shut: 1},
		{Addr: address(2), By: 3, Opened: 3, Dead: true},
		{Addr: address(3), By: 4, Opened: 4, Shut: 2, Dead: true},
		{Addr: address(4), By: 5, Opened: 5, Shut: -1},
	}
}

// P10.1: the next drop is taken; just an open socket is dead behind it, and nothing else is otherwise.
func TestDrop(t *testing.T) {
	for _, n := range append(numbers(), 5, 6) {
		w := but(busy(), func(w *api.World) { w.Socks, w.Plan.Drops, w.Dropped = socks(), []int{0, n, 0}, 1 })
		want := but(w, func(w *api.World) {
			w.Dropped = 2
			if n == 0 || n == 2 {
				w.Socks[n].Dead = true
			}
		})
		behind(t, fmt.Sprint("drop of ", n), want)(world.Drop(w))
	}
}

// P10.1: several drops, one behind the other, then none any more.
func TestDrops(t *testing.T) {
	open := []api.Sock{{By: 1}, {By: 2}, {By: 3}}
	w := but(begun(), func(w *api.World) { w.Socks, w.Plan.Drops = open, []int{2, 2, 9, 0} })
	for n, dead := range [][]int{{2}, {2}, {2}, {0, 2}} {
		w = must(t)(world.Drop(w))
		if w.Dropped != n+1 {
			t.Error(n, w.Dropped)
		}
		for k, s := range w.Socks {
			if s.Dead != slices.Contains(dead, k) || s.By != k+1 || s.Shut != 0 {
				t.Errorf("behind drop %d socket %d: %+v", n, k, s)
			}
		}
	}
	for range 3 {
		barred(t, "behind the last one", w, api.ErrMeet)(world.Drop(w))
	}
	for _, p := range []api.Plan{{}, {Drops: []int{}}} {
		barred(t, "without drops", api.World{Plan: p, Socks: open}, api.ErrMeet)(world.Drop(api.World{Plan: p, Socks: open}))
	}
}

// P10.1: a drop that comes ahead of its socket is taken all the same, and does not come back.
func TestDropAheadOfTheSocket(t *testing.T) {
	w := but(begun(), func(w *api.World) { w.Plan.Drops = []int{0, 0} })
	w = must(t)(world.Drop(w))
	w = must(t)(world.Dial(w, 3, address(2)))
	w, _ = ended(t)(world.End(w, 3))
	if world.Dead(w, 0) || w.Dropped != 1 {
		t.Error("dead of a drop that was ahead", w)
	}
	w = must(t)(world.Drop(w))
	if !world.Dead(w, 0) || w.Dropped != 2 {
		t.Error("not dead", w)
	}
}

// P10.1, P10.4: if fewer than no drops were, there is no next one, and none behind all of them; the world is as it was.
func TestDropOfWrongNumbers(t *testing.T) {
	w := but(begun(), func(w *api.World) { w.Socks, w.Plan.Drops = make([]api.Sock, 3), []int{1, 2} })
	for _, dropped := range append(numbers(), -128) {
		w.Dropped = dropped
		what := fmt.Sprint("dropped ", dropped)
		switch dropped {
		case 0:
			behind(t, what, but(w, func(w *api.World) { w.Dropped, w.Socks[1].Dead = 1, true }))(world.Drop(w))
		case 1:
			behind(t, what, but(w, func(w *api.World) { w.Dropped, w.Socks[2].Dead = 2, true }))(world.Drop(w))
		default:
			barred(t, what, w, api.ErrMeet)(world.Drop(w))
		}
	}
	none := api.World{Dropped: leastInt, Socks: make([]api.Sock, 3)}
	barred(t, "below 0, without drops", none, api.ErrMeet)(world.Drop(none))
}

// P10.1: none is taken twice: from wherever on, as many are taken as were not yet.
func TestDropTakesNoneTwice(t *testing.T) {
	drops := []int{0, 1, 2}
	for _, dropped := range append(numbers(), -3, -128) {
		w := api.World{Plan: api.Plan{Drops: drops}, Socks: make([]api.Sock, 3), Dropped: dropped}
		taken := 0
		for range 2 * len(drops) {
			next, e := world.Drop(w)
			if e != api.OK {
				break
			}
			w = next
			taken++
		}
		left := 0
		if 0 <= dropped && dropped < len(drops) {
			left = len(drops) - dropped
		}
		if taken != left {
			t.Errorf("dropped %d: %d were taken, not %d", dropped, taken, left)
		}
	}
}

// P10.1: the same in all fields, whether calls make it or not; lists of nothing and none are alike.
func TestSameAlike(t *testing.T) {
	l := append(wrong(), begun(), busy(), api.World{})
	for i, w := range l {
		if !world.Same(w, w) || !world.Same(w, copied(w)) || !world.Same(copied(w), w) {
			t.Errorf("world %d is not the same as its copy", i)
		}
	}
	for what, change := range map[string]func(w *api.World){
		"sockets": func(w *api.World) { w.Socks = []api.Sock{} },
		"dials":   func(w *api.World) { w.Dials = []api.Dial{} },
		"lookups": func(w *api.World) { w.Looks = []api.Look{} },
		"marks":   func(w *api.World) { w.Marks = []api.Mark{} },
		"zones":   func(w *api.World) { w.Plan.Zones = []api.Zone{} },
		"rows":    func(w *api.World) { w.Plan.Fates = []api.Fates{} },
		"drops":   func(w *api.World) { w.Plan.Drops = []int{} },
	} {
		none := api.World{Clock: 3}
		nothing := but(none, change)
		if !world.Same(none, nothing) || !world.Same(nothing, none) {
			t.Errorf("%s: of none and of nothing are not the same", what)
		}
	}
	answer, row := but(begun(), func(w *api.World) { w.Plan.Zones[1].Answers[1] = []api.Addr{} }), but(begun(), func(w *api.World) { w.Plan.Fates[1].L = []int8{} })
	if !world.Same(answer, begun()) || !world.Same(row, but(row, func(w *api.World) { w.Plan.Fates[1].L = nil })) {
		t.Error("lists of nothing and none in the plan are not the same")
	}
}

// changes are such as change one field of busy() alone, each at some depth, and make lists of unlike length.
func changes() map[string]func(w *api.World) {
	all := map[string]func(w *api.World){
		"Clock": func(w *api.World) { w.Clock++ }, "the least clock": func(w *api.World) { w.Clock = leastInt },
		"Dropped": func(w *api.World) { w.Dropped-- }, "the greatest Dropped": func(w *api.World) { w.Dropped = mostInt },

		"Ticks":          func(w *api.World) { w.Plan.Ticks++ },
		"a drop":         func(w *api.World) { w.Plan.Drops[3]++ },
		"drops fewer":    func(w *api.World) { w.Plan.Drops = w.Plan.Drops[:3] },
		"a zone's name":  func(w *api.World) { w.Plan.Zones[2].Name = "Linz" },
		"zones turned":   func(w *api.World) { slices.Reverse(w.Plan.Zones) },
		"an answer more": func(w *api.World) { w.Plan.Zones[2].Answers = append(w.Plan.Zones[2].Answers, nil) },
		"an answer's":    func(w *api.World) { w.Plan.Zones[0].Answers[2][2].Port++ },
		"a row's":        func(w *api.World) { w.Plan.Fates[3].Addr.G[7]++ },
		"a fate":         func(w *api.World) { w.Plan.Fates[0].L[2] = hangs },
		"rows fewer":     func(w *api.World) { w.Plan.Fates = w.Plan.Fates[:3] },

		"no sockets": func(w *api.World) { w.Socks = nil }, "a socket more": func(w *api.World) { w.Socks = append(w.Socks, api.Sock{}) },
		"no dials": func(w *api.World) { w.Dials = nil }, "a dial more": func(w *api.World) { w.Dials = append(w.Dials, api.Dial{}) },
		"no lookups": func(w *api.World) { w.Looks = nil }, "a lookup more": func(w *api.World) { w.Looks = append(w.Looks, api.Look{}) },
		"no marks": func(w *api.World) { w.Marks = nil }, "a mark more": func(w *api.World) { w.Marks = append(w.Marks, api.Mark{}) },
		"sockets turned": func(w *api.World) { slices.Reverse(w.Socks) },
		"dials turned":   func(w *api.World) { slices.Reverse(w.Dials) },
		"lookups turned": func(w *api.World) { slices.Reverse(w.Looks) },
		"marks turned":   func(w *api.World) { slices.Reverse(w.Marks) },
	}
	base := busy()
	for n := range base.Socks {
		all[fmt.Sprint("Addr of socket ", n)] = func(w *api.World) { w.Socks[n].Addr.Fam++ }
		all[fmt.Sprint("By of socket ", n)] = func(w *api.World) { w.Socks[n].By++ }
		all[fmt.Sprint("Opened of socket ", n)] = func(w *api.World) { w.Socks[n].Opened++ }
		all[fmt.Sprint("Shut of socket ", n)] = func(w *api.World) { w.Socks[n].Shut++ }
		all[fmt.Sprint("Dead of socket ", n)] = func(w *api.World) { w.Socks[n].Dead = !w.Socks[n].Dead }
	}
	for n := range base.Dials {
		all[fmt.Sprint("By of dial ", n)] = func(w *api.World) { w.Dials[n].By++ }
		all[fmt.Sprint("Addr of dial ", n)] = func(w *api.World) { w.Dials[n].Addr.Port++ }
		all[fmt.Sprint("Fate of dial ", n)] = func(w *api.World) { w.Dials[n].Fate-- }
		all[fmt.Sprint("Cut of dial ", n)] = func(w *api.World) { w.Dials[n].Cut = !w.Dials[n].Cut }
		all[fmt.Sprint("Over of dial ", n)] = func(w *api.World) { w.Dials[n].Over = !w.Dials[n].Over }
	}
	for n := range base.Looks {
		all[fmt.Sprint("By of lookup ", n)] = func(w *api.World) { w.Looks[n].By++ }
		all[fmt.Sprint("Name of lookup ", n)] = func(w *api.World) { w.Looks[n].Name += "s" }
		all[fmt.Sprint("Nth of lookup ", n)] = func(w *api.World) { w.Looks[n].Nth++ }
		all[fmt.Sprint("Over of lookup ", n)] = func(w *api.World) { w.Looks[n].Over = !w.Looks[n].Over }
	}
	for n := range base.Marks {
		all[fmt.Sprint("Shut of mark ", n)] = func(w *api.World) { w.Marks[n].Shut = !w.Marks[n].Shut }
		all[fmt.Sprint("Sock of mark ", n)] = func(w *api.World) { w.Marks[n].Sock-- }
		all[fmt.Sprint("At of mark ", n)] = func(w *api.World) { w.Marks[n].At++ }
	}
	return all
}

// P10.1: not the same, where one field alone is another one.
func TestSameUnlike(t *testing.T) {
	for what, change := range changes() {
		other := but(busy(), change)
		if world.Same(busy(), other) || world.Same(other, busy()) {
			t.Errorf("%s: the same", what)
		}
		if !world.Same(other, copied(other)) {
			t.Errorf("%s: not the same as itself", what)
		}
	}
}

// mayNot are values that are no addresses.
func mayNot() []api.Addr {
	four, six := address(0), address(1)
	l := []api.Addr{{}}
	for _, port := range []int{leastInt, -1, 0, 65536, mostInt} {
		a, b := four, six
		a.Port, b.Port = port, port
		l = append(l, a, b)
	}
	for _, fam := range []int8{-128, -4, 0, 3, 5, 7, 127} {
		a := four
		a.Fam = fam
		l = append(l, a)
	}
	for g := 2; g < 8; g++ {
		a := four
		a.G[g] = 1
		l = append(l, a)
	}
	return l
}

// P10.2: no address can't be dialled, also by one who has dialled already, and if the plan has fates of it.
func TestDialOfNoAddress(t *testing.T) {
	for _, a := range mayNot() {
		w := but(busy(), func(w *api.World) { w.Plan.Fates = append(w.Plan.Fates, api.Fates{Addr: a, L: []int8{ok}}) })
		for _, by := range append(numbers(), 10, 11, 14) {
			barred(t, fmt.Sprint(a, " by ", by), w, api.ErrAddr)(world.Dial(w, by, a))
		}
	}
}

// P10.2: who has a dial has no other one, be it over, cut or under way, to the same address or another one.
func TestDialTwice(t *testing.T) {
	for by := 10; by <= 15; by++ {
		for n := range 5 {
			barred(t, fmt.Sprint(n, " by ", by), busy(), api.ErrDial)(world.Dial(busy(), by, address(n)))
		}
	}
	for _, by := range numbers() {
		w := must(t)(world.Dial(begun(), by, address(1)))
		barred(t, fmt.Sprint("once more by ", by), w, api.ErrDial)(world.Dial(w, by, address(2)))
		w, _ = ended(t)(world.End(world.Cut(w, by), by))
		barred(t, fmt.Sprint("over, once more by ", by), w, api.ErrDial)(world.Dial(w, by, address(2)))
	}
}

// P10.2: with the dial: by whom, to which address, with its fate; neither cut nor over, and nothing else is otherwise.
func TestDial(t *testing.T) {
	for n, want := range map[int]int8{0: refused, 1: hangs, 2: ok, 3: refused, 4: refused, 5: refused} {
		for _, by := range numbers() {
			w := but(busy(), func(w *api.World) { w.Dials = append(w.Dials, api.Dial{By: by, Addr: address(n), Fate: want}) })
			behind(t, fmt.Sprint(n, " by ", by), w)(world.Dial(busy(), by, address(n)))
		}
	}
}

// P10.2: the first, second and last fate of an address, and behind that the last one, with dials to other addresses between.
func TestDialFates(t *testing.T) {
	l := []int8{hangs, ok, refused, ok, hangs, refused}
	for length := 1; length <= len(l); length++ {
		p := api.Plan{Fates: []api.Fates{{Addr: address(5), L: []int8{refused}}, {Addr: address(4), L: l[:length]}, {Addr: address(1), L: l}}}
		w := must(t)(world.New(p))
		for n := range 2 * len(l) {
			for between := range n % 3 {
				w = must(t)(world.Dial(w, 1000+10*n+between, address(between)))
			}
			w = must(t)(world.Dial(w, n, address(4)))
			want := api.Dial{By: n, Addr: address(4), Fate: l[min(n, length-1)]}
			if got := w.Dials[len(w.Dials)-1]; got != want {
				t.Errorf("dial %d of %d: %+v, not %+v", n, length, got, want)
			}
			if n%2 == 0 {
				w = world.Cut(w, n)
			}
			if world.Ready(w, n) {
				w, _ = ended(t)(world.End(w, n))
			}
		}
	}
}

// P10.2: an address that is another one in its port alone, or in one group, has fates of its own.
func TestDialOfNearAddresses(t *testing.T) {
	for field := range 9 {
		near := address(1)
		if field == 8 {
			near.Port++
		} else {
			near.G[field]++
		}
		p := api.Plan{Fates: []api.Fates{{Addr: address(1), L: []int8{hangs, ok}}, {Addr: near, L: []int8{refused, hangs}}}}
		w := must(t)(world.New(p))
		w = must(t)(world.Dial(w, 0, address(1)))
		w = must(t)(world.Dial(w, 1, near))
		w = must(t)(world.Dial(w, 2, near))
		w = must(t)(world.Dial(w, 3, address(1)))
		for n, want := range []int8{hangs, refused, hangs, ok} {
			if w.Dials[n].Fate != want {
				t.Errorf("field %d, dial %d: %d", field, n, w.Dials[n].Fate)
			}
		}
	}
}

// P10.2: all dials to an address count that were begun ahead, of whatever fate, over or not, and where several are by one, too.
func TestDialCountsAll(t *testing.T) {
	p := api.Plan{Fates: []api.Fates{{Addr: address(0), L: []int8{ok, ok, ok, ok, hangs, refused}}}}
	w := api.World{Plan: p, Dials: []api.Dial{
		{By: 1, Addr: address(0)}, {By: 1, Addr: address(0), Fate: 77}, {By: 2, Addr: address(2)}, {By: 1, Addr: address(0), Over: true}, {By: 3, Addr: address(0), Fate: hangs, Cut: true},
	}}
	want := but(w, func(w *api.World) { w.Dials = append(w.Dials, api.Dial{By: 9, Addr: address(0), Fate: hangs}) })
	behind(t, "the fifth one", want)(world.Dial(w, 9, address(0)))
}

// fates are all there are, and those that are none of the three.
func fates() []int8 {
	var l []int8
	for n := -128; n <= 127; n++ {
		l = append(l, int8(n))
	}
	return l
}

// P10.2: which dials are ready to end, of each fate, cut or not, over or not.
func TestReady(t *testing.T) {
	for _, fate := range fates() {
		for _, cut := range []bool{false, true} {
			for _, over := range []bool{false, true} {
				w := api.World{Dials: []api.Dial{{By: 6, Fate: ok, Over: true}, {By: 7, Fate: fate, Cut: cut, Over: over}}}
				want := !over && (fate == ok || fate == refused || fate == hangs && cut)
				if got := world.Ready(w, 7); got != want {
					t.Errorf("fate %d, cut %v, over %v: %v", fate, cut, over, got)
				}
				if world.Ready(w, 6) || world.Ready(w, 8) {
					t.Error("ready without a dial that is not over")
				}
			}
		}
	}
	for _, by := range numbers() {
		if world.Ready(api.World{}, by) || world.Ready(busy(), by) {
			t.Error("ready of one who has no dial", by)
		}
	}
	for by, want := range map[int]bool{10: false, 11: false, 12: false, 13: true, 14: true, 15: true} {
		if world.Ready(busy(), by) != want {
			t.Errorf("by %d: not %v", by, want)
		}
	}
}

// P10.2: a dial that is not over is cut, of whatever fate; all else is as it was.
func TestCut(t *testing.T) {
	for _, fate := range fates() {
		for _, cut := range []bool{false, true} {
			for _, over := range []bool{false, true} {
				w := but(busy(), func(w *api.World) { w.Dials[3] = api.Dial{By: 7, Addr: address(2), Fate: fate, Cut: cut, Over: over} })
				want := but(w, func(w *api.World) { w.Dials[3].Cut = cut || !over })
				is(t, fmt.Sprintf("fate %d, cut %v, over %v", fate, cut, over), world.Cut(w, 7), want)
			}
		}
	}
	for _, by := range append(numbers(), 9, 16, 20) {
		is(t, fmt.Sprint("without a dial, by ", by), world.Cut(busy(), by), busy())
	}
	is(t, "without dials", world.Cut(api.World{}, 0), api.World{})
}

// P10.2: an address that hangs is ready to end behind a Cut alone, and ends badly.
func TestExample(t *testing.T) {
	w := must(t)(world.New(events()))
	w = must(t)(world.Dial(w, 4, address(1)))
	if world.Ready(w, 4) {
		t.Error("ready ahead of the cut")
	}
	untold(t, "ahead of the cut", w, api.ErrDial)(world.End(w, 4))
	w = world.Cut(w, 4)
	if !world.Ready(w, 4) {
		t.Error("not ready behind the cut")
	}
	want := api.World{Plan: events(), Dials: []api.Dial{{By: 4, Addr: address(1), Fate: hangs, Cut: true, Over: true}}}
	told(t, "behind the cut", want, api.Letter{Kind: api.LtEnd, E: api.ErrRefused})(world.End(w, 4))
}

// P10.2: a dial that ends well opens a socket, cut or not: at the clock, by the one who dialled, with its record; its number is in the letter.
func TestEndWell(t *testing.T) {
	for _, cut := range []bool{false, true} {
		for _, by := range numbers() {
			for _, clock := range numbers() {
				w := but(busy(), func(w *api.World) { w.Clock = clock; w.Dials[5].By = by; w.Dials[5].Cut = cut })
				want := but(w, func(w *api.World) {
					w.Dials[5].Over = true
					w.Socks = append(w.Socks, api.Sock{Addr: address(2), By: by, Opened: clock})
					w.Marks = append(w.Marks, api.Mark{Sock: 2, At: clock})
				})
				told(t, fmt.Sprintf("cut %v, by %d, at %d", cut, by, clock), want, api.Letter{Kind: api.LtEnd, Sock: 2})(world.End(w, by))
			}
		}
	}
}

// P10.2: sockets are numbered by their places, the first one of all by 0.
func TestEndSockets(t *testing.T) {
	w := must(t)(world.New(events()))
	for n := range 5 {
		w = must(t)(world.Dial(w, 70-n, address(2)))
		w = must(t)(world.Tick(w))
	}
	for n := range 5 {
		var m api.Letter
		w, m = ended(t)(world.End(w, 66+n))
		if m != (api.Letter{Kind: api.LtEnd, Sock: n}) {
			t.Errorf("letter %d: %+v", n, m)
		}
		if got, want := w.Socks[n], (api.Sock{Addr: address(2), By: 66 + n, Opened: 5}); got != want {
			t.Errorf("socket %d: %+v", n, got)
		}
		if got, want := w.Marks[n], (api.Mark{Sock: n, At: 5}); got != want || len(w.Marks) != n+1 || len(w.Socks) != n+1 {
			t.Errorf("mark %d: %+v", n, got)
		}
	}
}

// P10.2: a dial that ends badly opens nothing: one that is refused, cut or not, and one that hangs, cut.
func TestEndBadly(t *testing.T) {
	for _, d := range []api.Dial{{Fate: refused}, {Fate: refused, Cut: true}, {Fate: hangs, Cut: true}} {
		for _, by := range numbers() {
			d.By, d.Addr = by, address(2)
			w := but(busy(), func(w *api.World) { w.Dials[4] = d })
			want := but(w, func(w *api.World) { w.Dials[4].Over = true })
			told(t, fmt.Sprintf("%+v", d), want, api.Letter{Kind: api.LtEnd, E: api.ErrRefused})(world.End(w, by))
		}
	}
}

// P10.2: no dial ends that is not ready, or is over, or that there is not.
func TestEndNot(t *testing.T) {
	for _, fate := range fates() {
		for _, cut := range []bool{false, true} {
			for _, over := range []bool{false, true} {
				if !over && (fate == ok || fate == refused || fate == hangs && cut) {
					continue
				}
				w := but(busy(), func(w *api.World) { w.Dials[5] = api.Dial{By: 7, Addr: address(2), Fate: fate, Cut: cut, Over: over} })
				untold(t, fmt.Sprintf("fate %d, cut %v, over %v", fate, cut, over), w, api.ErrDial)(world.End(w, 7))
			}
		}
	}
	for _, by := range append(numbers(), 10, 11, 12, 16, 20) {
		untold(t, fmt.Sprint("by ", by), busy(), api.ErrDial)(world.End(busy(), by))
	}
	untold(t, "without dials", api.World{}, api.ErrDial)(world.End(api.World{}, 0))
	for _, by := range []int{13, 14, 15} {
		w, _ := ended(t)(world.End(busy(), by))
		untold(t, fmt.Sprint("once more, by ", by), w, api.ErrDial)(world.End(w, by))
	}
}

// P10.2: of several dials by one the first one counts, and it alone, whatever the others are.
func TestFirstDialCounts(t *testing.T) {
	first := []api.Dial{{Fate: ok}, {Fate: refused}, {Fate: hangs}, {Fate: hangs, Cut: true}, {Fate: 3, Cut: true}, {Fate: ok, Over: true}}
	for _, d := range first {
		for _, other := range first {
			d.By, other.By = 5, 5
			w := api.World{Dials: []api.Dial{{By: 4, Fate: ok}, d, {By: 6, Fate: ok}, other, other}, Clock: 8}
			what := fmt.Sprintf("%+v, then %+v", d, other)
			ready := !d.Over && (d.Fate == ok || d.Fate == refused || d.Fate == hangs && d.Cut)
			if world.Ready(w, 5) != ready {
				t.Errorf("%s: ready", what)
			}
			is(t, what, world.Cut(w, 5), but(w, func(w *api.World) { w.Dials[1].Cut = d.Cut || !d.Over }))
			barred(t, what, w, api.ErrDial)(world.Dial(w, 5, address(0)))
			want := but(w, func(w *api.World) { w.Dials[1].Over = true })
			switch {
			case !ready:
				untold(t, what, w, api.ErrDial)(world.End(w, 5))
			case d.Fate == ok:
				want.Socks, want.Marks = []api.Sock{{By: 5, Opened: 8}}, []api.Mark{{At: 8}}
				told(t, what, want, api.Letter{Kind: api.LtEnd})(world.End(w, 5))
			default:
				told(t, what, want, api.Letter{Kind: api.LtEnd, E: api.ErrRefused})(world.End(w, 5))
			}
		}
	}
}

// P10.2: how many dials are not over, of no address all of them, of one, of several, of the same one twice.
func TestUnder(t *testing.T) {
	near := address(1)
	near.Port++
	w := api.World{Dials: []api.Dial{
		{By: 1, Addr: address(0)}, {By: 2, Addr: address(1)}, {By: 3, Addr: address(0), Over: true}, {By: 4, Addr: address(0), Cut: true, Fate: hangs},
		{By: 5, Addr: address(2), Over: true, Cut: true}, {By: 1, Addr: address(1), Fate: -7}, {By: 6, Addr: api.Addr{}}, {By: 7, Addr: near, Fate: refused},
	}}
	for i, of := range []struct {
		a    []api.Addr
		want int
	}{
		{nil, 6}, {[]api.Addr{}, 6}, {addresses(1), 2}, {addresses(2), 4}, {addresses(3), 4}, {[]api.Addr{address(1)}, 2},
		{[]api.Addr{address(2)}, 0}, {[]api.Addr{address(3)}, 0}, {[]api.Addr{address(0), address(0)}, 2}, {[]api.Addr{address(1), address(0), address(1), address(0)}, 4},
		{[]api.Addr{{}}, 1}, {[]api.Addr{near}, 1}, {[]api.Addr{near, {}, address(0), address(1)}, 6}, {mayNot(), 1},
	} {
		if got := world.Under(w, of.a...); got != of.want {
			t.Errorf("%d: %d, not %d", i, got, of.want)
		}
	}
	if world.Under(api.World{}) != 0 || world.Under(api.World{}, address(0)) != 0 || world.Under(busy()) != 4 {
		t.Error("under", world.Under(busy()))
	}
}

// P10.2: dials come under way and are over.
func TestUnderBehindEvents(t *testing.T) {
	w := must(t)(world.New(events()))
	for n := range 4 {
		w = must(t)(world.Dial(w, n, address(n)))
		if world.Under(w) != n+1 || world.Under(w, address(n)) != 1 || world.Under(w, address(n), address(0)) != min(n+1, 2) {
			t.Error("under, dial ", n)
		}
	}
	w = world.Cut(w, 1)
	if world.Under(w) != 4 {
		t.Error("a cut one is not over")
	}
	for n := range 4 {
		w, _ = ended(t)(world.End(w, n))
		if world.Under(w) != 3-n || world.Under(w, address(n)) != 0 {
			t.Error("under, end ", n)
		}
	}
}

// texts are such as may be asked for, names and others.
func texts() []string {
	return []string{"", "wien", "graz", "linz", "Wien", "wien ", "\xff\xfe", "a..b", strings.Repeat("a", 1000)}
}

// P10.3: with the lookup: by whom, of which name, which one of the name's; nothing else is otherwise.
func TestAsk(t *testing.T) {
	for _, name := range texts() {
		for _, by := range numbers() {
			nth := map[string]int{"wien": 2, "graz": 1}[name]
			want := but(busy(), func(w *api.World) { w.Looks = append(w.Looks, api.Look{By: by, Name: name, Nth: nth}) })
			behind(t, fmt.Sprintf("%q by %d", name, by), want)(world.Ask(busy(), by, name))
		}
	}
}

// P10.3: as many of that name as were begun ahead, over or not, also where several are by one; other names count for nothing.
func TestAskNth(t *testing.T) {
	w := must(t)(world.New(events()))
	count := map[string]int{}
	for n := range 30 {
		name := texts()[n*n%5]
		w = must(t)(world.Ask(w, n, name))
		if want := (api.Look{By: n, Name: name, Nth: count[name]}); w.Looks[n] != want {
			t.Errorf("%d: %+v, not %+v", n, w.Looks[n], want)
		}
		count[name]++
		if n%2 == 0 {
			w, _ = ended(t)(world.Answer(w, n))
		}
	}
	l := []api.Look{{By: 1, Name: "a"}, {By: 1, Name: "a", Nth: 9}, {By: 2, Name: "b"}, {By: 1, Name: "a", Nth: -3, Over: true}}
	want := api.World{Looks: append(slices.Clone(l), api.Look{By: 3, Name: "a", Nth: 3})}
	behind(t, "by hand", want)(world.Ask(api.World{Looks: l}, 3, "a"))
}

// P10.3: who has a lookup has no other one, over or not, of the same name or another one.
func TestAskTwice(t *testing.T) {
	for by := 20; by <= 22; by++ {
		for _, name := range texts() {
			barred(t, fmt.Sprintf("%q by %d", name, by), busy(), api.ErrLookup)(world.Ask(busy(), by, name))
		}
	}
	for _, by := range numbers() {
		w := must(t)(world.Ask(begun(), by, "wien"))
		barred(t, fmt.Sprint("once more by ", by), w, api.ErrLookup)(world.Ask(w, by, "graz"))
		w, _ = ended(t)(world.Answer(w, by))
		barred(t, fmt.Sprint("over, once more by ", by), w, api.ErrLookup)(world.Ask(w, by, "graz"))
	}
}

// P10.2, P10.3: who has a lookup may dial, and who has a dial may look up: one counts for nothing in the other.
func TestDialAndAsk(t *testing.T) {
	w := must(t)(world.Ask(begun(), 1, "wien"))
	if world.Ready(w, 1) {
		t.Error("a lookup is no dial")
	}
	untold(t, "a lookup", w, api.ErrDial)(world.End(w, 1))
	w = must(t)(world.Dial(w, 1, address(2)))
	w, _ = ended(t)(world.Answer(w, 1))
	if !world.Ready(w, 1) || world.Asked(w, 1) {
		t.Error("the dial is over, or the lookup is not")
	}
	w = must(t)(world.Dial(begun(), 1, address(2)))
	if world.Asked(w, 1) {
		t.Error("a dial is no lookup")
	}
	untold(t, "a dial", w, api.ErrLookup)(world.Answer(w, 1))
	w = must(t)(world.Ask(w, 1, "wien"))
	w, _ = ended(t)(world.End(w, 1))
	if world.Ready(w, 1) || !world.Asked(w, 1) {
		t.Error("the lookup is over, or the dial is not")
	}
}

// P10.3: who has a lookup that is not over.
func TestAsked(t *testing.T) {
	for by, want := range map[int]bool{20: false, 21: true, 22: true, 23: false, 10: false, leastInt: false, mostInt: false, -1: false, 0: false} {
		if world.Asked(busy(), by) != want {
			t.Errorf("by %d: not %v", by, want)
		}
	}
	for _, by := range numbers() {
		w := must(t)(world.Ask(begun(), by, "none"))
		behind, _ := ended(t)(world.Answer(w, by))
		if world.Asked(begun(), by) || !world.Asked(w, by) || world.Asked(behind, by) || world.Asked(api.World{}, by) {
			t.Error("asked by", by)
		}
	}
}

// row answers the text of a row.
func row(t *testing.T, l ...api.Addr) string {
	t.Helper()
	text, e := addr.Row(l...)
	if e != api.OK {
		t.Fatal(l, e)
	}
	return text
}

// P10.3: the first answer, the second, the last, and behind that the last one; the lookup is over, nothing else is otherwise.
func TestAnswer(t *testing.T) {
	w := must(t)(world.New(events()))
	l := events().Zones[0].Answers
	for n := range 7 {
		w = must(t)(world.Ask(w, n, "wien"))
	}
	// In whatever order they are answered: which one it is goes by who was ahead when it was begun.
	for _, n := range []int{3, 0, 6, 1, 2, 5, 4} {
		want := but(w, func(w *api.World) { w.Looks[n].Over = true })
		told(t, fmt.Sprint("answer ", n), want, api.Letter{Kind: api.LtRow, Text: row(t, l[min(n, 2)]...)})(world.Answer(w, n))
		w, _ = ended(t)(world.Answer(w, n))
	}
	w = must(t)(world.Ask(begun(), 1, "wien"))
	if _, m := ended(t)(world.Answer(w, 1)); m.Text != "1.2.0.0:80 [1:2:3:4:5:6:7:1]:80" {
		t.Errorf("%+v", m)
	}
}

// P10.3: of a name without a zone, of an answer without addresses, of one whose row has no text: ErrNoName in the letter, and the lookup is over.
func TestAnswerNoName(t *testing.T) {
	long, bad := addresses(mostAddrs+1), append(addresses(2), api.Addr{})
	p := api.Plan{Zones: []api.Zone{
		{Name: "long", Answers: [][]api.Addr{long}}, {Name: "bad", Answers: [][]api.Addr{bad}}, {Name: "empty", Answers: [][]api.Addr{nil}},
		{Name: "nothing", Answers: [][]api.Addr{{}}}, {Name: "none"}, {Name: "then", Answers: [][]api.Addr{addresses(2), {}}}, {Name: "graz", Answers: [][]api.Addr{addresses(1)}},
	}}
	no := api.Letter{Kind: api.LtRow, E: api.ErrNoName}
	for _, name := range []string{"long", "bad", "empty", "nothing", "none", "", "Graz", "graz ", "wien", "\xff"} {
		w := must(t)(world.Ask(api.World{Plan: p, Clock: 4}, 3, name))
		want := but(w, func(w *api.World) { w.Looks[0].Over = true })
		told(t, fmt.Sprintf("%q", name), want, no)(world.Answer(w, 3))
	}
	w := must(t)(world.Ask(api.World{Plan: p}, 3, "then"))
	w = must(t)(world.Ask(w, 4, "then"))
	_, first := ended(t)(world.Answer(w, 3))
	_, second := ended(t)(world.Answer(w, 4))
	if first != (api.Letter{Kind: api.LtRow, Text: row(t, addresses(2)...)}) || second != no {
		t.Errorf("%+v, %+v", first, second)
	}
	most := api.World{Plan: api.Plan{Zones: []api.Zone{{Name: "most", Answers: [][]api.Addr{addresses(mostAddrs)}}}}, Looks: []api.Look{{Name: "most"}}}
	if _, m := ended(t)(world.Answer(most, 0)); m != (api.Letter{Kind: api.LtRow, Text: row(t, addresses(mostAddrs)...)}) {
		t.Errorf("%+v", m)
	}
}

// P10.3: no lookup is answered that is over, or that there is not.
func TestAnswerNot(t *testing.T) {
	for _, by := range append(numbers(), 10, 11, 20, 23) {
		untold(t, fmt.Sprint("by ", by), busy(), api.ErrLookup)(world.Answer(busy(), by))
	}
	untold(t, "without lookups", api.World{}, api.ErrLookup)(world.Answer(api.World{}, 0))
	for _, by := range []int{21, 22} {
		w, _ := ended(t)(world.Answer(busy(), by))
		untold(t, fmt.Sprint("once more, by ", by), w, api.ErrLookup)(world.Answer(w, by))
	}
}

// P10.3: of several lookups by one the first one counts, and it alone; its Nth is what it is, whatever that be.
func TestFirstLookupCounts(t *testing.T) {
	l := events().Zones[0].Answers
	for nth, want := range map[int]int{leastInt: 0, -1: 0, 0: 0, 1: 1, 2: 2, 3: 2, mostInt: 2} {
		for _, over := range []bool{false, true} {
			w := but(begun(), func(w *api.World) {
				w.Looks = []api.Look{{By: 4, Name: "graz"}, {By: 5, Name: "wien", Nth: nth, Over: over}, {By: 5, Name: "graz"}, {By: 5, Name: "wien", Over: !over}}
			})
			if world.Asked(w, 5) == over {
				t.Error("asked", nth, over)
			}
			barred(t, "once more", w, api.ErrLookup)(world.Ask(w, 5, "linz"))
			if over {
				untold(t, "over", w, api.ErrLookup)(world.Answer(w, 5))
				continue
			}
			told(t, fmt.Sprint("nth ", nth), but(w, func(w *api.World) { w.Looks[1].Over = true }), api.Letter{Kind: api.LtRow, Text: row(t, l[want]...)})(world.Answer(w, 5))
		}
	}
}

// P10.4: a socket is shut once more at the clock, open or not, dead or not, with its record; others are not.
func TestShut(t *testing.T) {
	for _, clock := range numbers() {
		w := but(busy(), func(w *api.World) { w.Socks, w.Clock = socks(), clock })
		for _, n := range append(numbers(), 5, 6) {
			what := fmt.Sprintf("shut of %d at %d", n, clock)
			if n < 0 || n > 4 {
				barred(t, what, w, api.ErrSocket)(world.Shut(w, n))
				continue
			}
			want := but(w, func(w *api.World) {
				w.Socks[n].Shut++
				w.Marks = append(w.Marks, api.Mark{Shut: true, Sock: n, At: clock})
			})
			behind(t, what, want)(world.Shut(w, n))
		}
	}
	for _, n := range numbers() {
		barred(t, fmt.Sprint("without sockets, shut of ", n), begun(), api.ErrSocket)(world.Shut(begun(), n))
	}
}

// P10.4: once more, again and again.
func TestShutAgain(t *testing.T) {
	w := must(t)(world.Dial(begun(), 1, address(2)))
	w, _ = ended(t)(world.End(w, 1))
	for n := range 4 {
		w = must(t)(world.Tick(w))
		w = must(t)(world.Shut(w, 0))
		if w.Socks[0].Shut != n+1 || w.Marks[n+1] != (api.Mark{Shut: true, At: n + 1}) || len(w.Marks) != n+2 {
			t.Error(n, w.Socks, w.Marks)
		}
	}
}

// P10.4: is each a socket, and dead: of no number, of one, of several, of the same one twice, of what is no socket.
func TestDead(t *testing.T) {
	w := api.World{Socks: socks()}
	dead := map[int]bool{2: true, 3: true}
	for _, n := range append(numbers(), 5, 6) {
		if world.Dead(w, n) != dead[n] || world.Dead(w, 2, n) != dead[n] || world.Dead(w, n, 3) != dead[n] || world.Dead(w, 3, n, 2) != dead[n] || world.Dead(w, n, n) != dead[n] {
			t.Error("dead", n)
		}
		if world.Dead(api.World{}, n) {
			t.Error("dead, without sockets", n)
		}
	}
	if !world.Dead(w) || !world.Dead(api.World{}) || !world.Dead(w, []int{}...) || !world.Dead(w, 2, 3, 2, 3, 3) {
		t.Error("each of none is dead")
	}
	all := slices.Repeat([]int{2, 3}, 1000)
	if !world.Dead(w, all...) || world.Dead(w, append(all, 0)...) || world.Dead(w, append([]int{1}, all...)...) {
		t.Error("of many")
	}
}

// wrong are worlds that no calls make.
func wrong() []api.World {
	a := api.Addr{Fam: -1, Port: leastInt}
	bad := api.Plan{
		Zones: []api.Zone{{Name: "A"}, {Name: "A", Answers: [][]api.Addr{{a}}}, {Name: "\xff", Answers: [][]api.Addr{addresses(40), {a, a}}}},
		Fates: []api.Fates{{Addr: address(0)}, {Addr: address(0), L: []int8{ok}}, {Addr: address(1), L: []int8{-128, 127}}, {Addr: a, L: []int8{9}}},
		Ticks: leastInt, Drops: []int{leastInt, -1, mostInt, 0, 1},
	}
	var l []api.World
	for _, n := range []int{leastInt, -1, 0, 2, mostInt} {
		l = append(l,
			api.World{Clock: n, Dropped: n},
			api.World{Plan: bad, Clock: n, Dropped: n},
			api.World{Plan: events(), Clock: n, Dropped: n, Socks: []api.Sock{{By: n, Opened: n, Shut: n}, {By: n, Shut: n, Dead: true}}},
			api.World{Plan: events(), Clock: n, Marks: []api.Mark{{Sock: n, At: n}, {Shut: true, Sock: n, At: -n}}},
			api.World{Plan: bad, Dials: []api.Dial{{By: n, Addr: a, Fate: ok}, {By: n, Addr: address(0), Fate: hangs, Cut: true}}, Dropped: n},
			api.World{Plan: bad, Dials: []api.Dial{{By: n, Fate: -128, Cut: true}, {By: n, Fate: ok}, {By: 0, Fate: 127}}},
			api.World{Plan: bad, Looks: []api.Look{{By: n, Name: "A", Nth: n}, {By: n, Name: "\xff", Nth: -n}, {By: 1, Name: "\xff", Nth: n}}},
			api.World{Looks: []api.Look{{By: n, Over: true}, {By: n}}, Dials: []api.Dial{{By: n, Over: true}, {By: n}}, Clock: n},
		)
	}
	return l
}

// P10.1 to P10.4: worlds that no calls make are answered all the same: behind an error they are as they were, else just what the event is about is otherwise.
func TestWrongWorlds(t *testing.T) {
	for i, w := range append(wrong(), busy(), begun()) {
		was := copied(w)
		for _, n := range append(numbers(), 10, 11, 13, 14, 15, 20, 21, 22) {
			what := fmt.Sprintf("world %d, %d", i, n)
			for _, name := range texts() {
				ask, e := world.Ask(w, n, name)
				had := slices.ContainsFunc(w.Looks, func(l api.Look) bool { return l.By == n })
				changed(t, what+" Ask", w, ask, api.Letter{}, e, map[bool]api.Errno{true: api.ErrLookup}[had], "Looks")
			}
			for _, a := range append(addresses(5), mayNot()...) {
				dial, e := world.Dial(w, n, a)
				had := slices.ContainsFunc(w.Dials, func(d api.Dial) bool { return d.By == n })
				want := map[bool]api.Errno{true: api.ErrDial}[had]
				if !addr.May(a) {
					want = api.ErrAddr
				}
				changed(t, what+" Dial", w, dial, api.Letter{}, e, want, "Dials")
			}
			tick, e := world.Tick(w)
			changed(t, what+" Tick", w, tick, api.Letter{}, e, map[bool]api.Errno{true: api.ErrMeet}[w.Clock >= w.Plan.Ticks], "Clock")
			drop, e := world.Drop(w)
			changed(t, what+" Drop", w, drop, api.Letter{}, e, map[bool]api.Errno{true: api.ErrMeet}[w.Dropped < 0 || w.Dropped >= len(w.Plan.Drops)], "Dropped Socks")
			shut, e := world.Shut(w, n)
			changed(t, what+" Shut", w, shut, api.Letter{}, e, map[bool]api.Errno{true: api.ErrSocket}[n < 0 || n >= len(w.Socks)], "Socks Marks")
			end, m, e := world.End(w, n)
			changed(t, what+" End", w, end, m, e, map[bool]api.Errno{true: api.ErrDial}[!world.Ready(w, n)], "Dials Socks Marks")
			answer, m, e := world.Answer(w, n)
			changed(t, what+" Answer", w, answer, m, e, map[bool]api.Errno{true: api.ErrLookup}[!world.Asked(w, n)], "Looks")
			changed(t, what+" Cut", w, world.Cut(w, n), api.Letter{}, api.OK, api.OK, "Dials")
			world.Dead(w, n)
			world.Under(w, address(n&7))
		}
		is(t, fmt.Sprint("world ", i, " itself"), w, was)
	}
}

// changed asks that an event's error is want; that behind an error nothing is otherwise, and there is no letter; else that nothing is but in these fields.
func changed(t *testing.T, what string, w, got api.World, m api.Letter, e, want api.Errno, fields string) {
	t.Helper()
	if e != want {
		t.Errorf("%s: error %d, not %d", what, e, want)
	}
	if e != api.OK {
		is(t, what, got, w)
		if m != (api.Letter{}) {
			t.Errorf("%s: %+v beside an error", what, m)
		}
		return
	}
	rest := copied(got)
	for _, field := range strings.Fields(fields) {
		switch field {
		case "Clock":
			rest.Clock = w.Clock
		case "Dropped":
			rest.Dropped = w.Dropped
		case "Socks":
			rest.Socks = w.Socks
		case "Marks":
			rest.Marks = w.Marks
		case "Dials":
			rest.Dials = w.Dials
		case "Looks":
			rest.Looks = w.Looks
		}
	}
	is(t, what, rest, w)
}

// doing is what may be done to a world, and answers the world and the letter behind it.
type doing struct {
	what string
	do   func(w api.World) (api.World, api.Letter, api.Errno)
}

// plain is a doing without a letter.
func plain(what string, do func(w api.World) (api.World, api.Errno)) doing {
	return doing{what, func(w api.World) (api.World, api.Letter, api.Errno) {
		w, e := do(w)
		return w, api.Letter{}, e
	}}
}

// doings are the events of two who dial and one who looks up, ticks, drops and shuttings.
func doings() []doing {
	l := []doing{plain("tick", world.Tick), plain("drop", world.Drop)}
	for n := range 2 {
		l = append(l, plain(fmt.Sprint("shut ", n), func(w api.World) (api.World, api.Errno) { return world.Shut(w, n) }))
	}
	for by := range 3 {
		l = append(l,
			plain(fmt.Sprint("dial 0 by ", by), func(w api.World) (api.World, api.Errno) { return world.Dial(w, by, address(0)) }),
			plain(fmt.Sprint("cut ", by), func(w api.World) (api.World, api.Errno) { return world.Cut(w, by), api.OK }),
			doing{fmt.Sprint("end ", by), func(w api.World) (api.World, api.Letter, api.Errno) { return world.End(w, by) }},
		)
	}
	return append(l,
		plain("ask", func(w api.World) (api.World, api.Errno) { return world.Ask(w, 7, "wien") }),
		doing{"answer", func(w api.World) (api.World, api.Letter, api.Errno) { return world.Answer(w, 7) }},
	)
}

// tally is what was seen of a way through events.
type tally struct {
	well  int      // dials that ended well
	ended [3]int   // how often each one's dial ended
	cut   [3]bool  // whether it was cut ahead of its end
	way   []string // what was done
}

// goOn does each event behind w, and what follows, as many deep.
func goOn(t *testing.T, w api.World, seen tally, deep int) {
	t.Helper()
	follows(t, w, seen)
	if deep == 0 || t.Failed() {
		return
	}
	for _, d := range doings() {
		next, m, e := d.do(w)
		if e != api.OK {
			is(t, fmt.Sprint(seen.way, d.what), next, w)
			continue
		}
		if world.Same(next, w) {
			continue
		}
		then := seen
		then.way = append(slices.Clone(seen.way), d.what)
		var by int
		switch {
		case m.Kind == api.LtEnd:
			fmt.Sscanf(d.what, "end %d", &by)
			then.ended[by]++
			if m.E == api.OK {
				then.well++
			}
		case strings.HasPrefix(d.what, "cut"):
			fmt.Sscanf(d.what, "cut %d", &by)
			then.cut[by] = true
		}
		goOn(t, next, then, deep-1)
	}
}

// follows asks what the chapter says that follows.
func follows(t *testing.T, w api.World, seen tally) {
	t.Helper()
	if sock.Check(w.Socks, w.Marks) != api.OK {
		t.Errorf("%v: sockets and record do not go together: %+v", seen.way, w)
	}
	if len(w.Socks) != seen.well {
		t.Errorf("%v: %d sockets, %d ended well", seen.way, len(w.Socks), seen.well)
	}
	for by := range 3 {
		if seen.ended[by] > 1 {
			t.Errorf("%v: the dial by %d ended twice", seen.way, by)
		}
		if seen.cut[by] && world.Ready(w, by) != (seen.ended[by] == 0) {
			t.Errorf("%v: the dial by %d was cut, and is ready to end: %v", seen.way, by, world.Ready(w, by))
		}
	}
}

// P10.5: behind events in whatever order.
func TestFollows(t *testing.T) {
	for _, l := range [][]int8{{ok, hangs, refused}, {hangs, ok}, {ok}} {
		p := api.Plan{Zones: events().Zones, Fates: []api.Fates{{Addr: address(0), L: l}}, Ticks: 2, Drops: []int{0, 1}}
		goOn(t, must(t)(world.New(p)), tally{}, 5)
	}
}

// P10.5: behind a long row of events, in an order that a rule of steps tells.
func TestFollowsLong(t *testing.T) {
	for step := 1; step < 60; step++ {
		w := must(t)(world.New(events()))
		well, at := 0, step
		ends := map[int]int{}
		for range 400 {
			at = (at*31 + step*7 + 11) % 10007
			by := at % 40
			var m api.Letter
			var e api.Errno
			switch (at / 40) % 9 {
			case 0, 1:
				w, _ = world.Dial(w, by, address(at%5))
			case 2:
				w = world.Cut(w, by)
			case 3, 4:
				w, m, e = world.End(w, by)
				if e == api.OK {
					ends[by]++
					if m.E == api.OK {
						well++
					}
				}
			case 5:
				w, _ = world.Shut(w, by%5)
			case 6:
				w, _ = world.Tick(w)
			case 7:
				w, _ = world.Drop(w)
			case 8:
				w, _ = world.Ask(w, by, texts()[at%4])
				w, _, _ = world.Answer(w, by-1)
			}
			if sock.Check(w.Socks, w.Marks) != api.OK || len(w.Socks) != well || ends[by] > 1 {
				t.Fatalf("step %d: %+v", step, w)
			}
		}
		if well == 0 || w.Clock != 5 || w.Dropped != 4 {
			t.Errorf("step %d: too little went on", step)
		}
	}
}

// roomy answers w with spare room behind each list, and guards in it.
func roomy(w api.World) api.World {
	w = copied(w)
	for n, z := range w.Plan.Zones {
		for k, answer := range z.Answers {
			z.Answers[k] = room(answer, address(777))
		}
		w.Plan.Zones[n].Answers = room(z.Answers, addresses(3))
	}
	for n, row := range w.Plan.Fates {
		w.Plan.Fates[n].L = room(row.L, 77)
	}
	w.Plan.Zones = room(w.Plan.Zones, api.Zone{Name: "guard"})
	w.Plan.Fates = room(w.Plan.Fates, api.Fates{Addr: address(777)})
	w.Plan.Drops = room(w.Plan.Drops, 777)
	w.Socks = room(w.Socks, api.Sock{By: 777})
	w.Dials = room(w.Dials, api.Dial{By: 777})
	w.Looks = room(w.Looks, api.Look{By: 777})
	w.Marks = room(w.Marks, api.Mark{At: 777})
	return w
}

// room answers l with three guards in the spare room behind it.
func room[T any](l []T, guard T) []T {
	return slices.Concat(l, []T{guard, guard, guard})[:len(l)]
}

// whole tells all there is of w, spare room included.
func whole(w api.World) string {
	text := fmt.Sprintf("%#v %#v %#v %#v", w.Socks[:cap(w.Socks)], w.Dials[:cap(w.Dials)], w.Looks[:cap(w.Looks)], w.Marks[:cap(w.Marks)])
	return text + fmt.Sprintf(" %d %d ", w.Clock, w.Dropped) + wholePlan(w.Plan)
}

func wholePlan(p api.Plan) string {
	text := fmt.Sprintf("%d %#v", p.Ticks, p.Drops[:cap(p.Drops)])
	for _, z := range p.Zones[:cap(p.Zones)] {
		text += fmt.Sprintf(" %q", z.Name)
		for _, answer := range z.Answers[:cap(z.Answers)] {
			text += fmt.Sprintf(" %#v", answer[:cap(answer)])
		}
	}
	for _, row := range p.Fates[:cap(p.Fates)] {
		text += fmt.Sprintf(" %#v %#v", row.Addr, row.L[:cap(row.L)])
	}
	return text
}

// spoil overwrites all that w holds, at each depth, spare room included.
func spoil(w api.World) {
	for _, z := range w.Plan.Zones[:cap(w.Plan.Zones)] {
		for _, answer := range z.Answers[:cap(z.Answers)] {
			fill(answer, address(555))
		}
		fill(z.Answers, nil)
	}
	for _, row := range w.Plan.Fates[:cap(w.Plan.Fates)] {
		fill(row.L, 55)
	}
	fill(w.Plan.Zones, api.Zone{Name: "spoilt"})
	fill(w.Plan.Fates, api.Fates{Addr: address(555)})
	fill(w.Plan.Drops, 555)
	fill(w.Socks, api.Sock{By: 555})
	fill(w.Dials, api.Dial{By: 555})
	fill(w.Looks, api.Look{By: 555})
	fill(w.Marks, api.Mark{At: 555})
}

func fill[T any](l []T, v T) {
	l = l[:cap(l)]
	for i := range l {
		l[i] = v
	}
}

// calls are all that answer a world, each where it does something, and where it is barred.
func calls() []doing {
	return []doing{
		plain("Tick", world.Tick),
		plain("Tick, barred", func(w api.World) (api.World, api.Errno) { w.Plan.Ticks = 0; return world.Tick(w) }),
		plain("Drop", world.Drop),
		plain("Drop of one that is open", func(w api.World) (api.World, api.Errno) { w.Dropped = 0; return world.Drop(w) }),
		plain("Drop, barred", func(w api.World) (api.World, api.Errno) { w.Dropped = 4; return world.Drop(w) }),
		plain("Dial", func(w api.World) (api.World, api.Errno) { return world.Dial(w, 99, address(0)) }),
		plain("Dial, barred", func(w api.World) (api.World, api.Errno) { return world.Dial(w, 10, address(0)) }),
		plain("Dial of no address", func(w api.World) (api.World, api.Errno) { return world.Dial(w, 99, api.Addr{}) }),
		plain("Cut", func(w api.World) (api.World, api.Errno) { return world.Cut(w, 11), api.OK }),
		plain("Cut of none", func(w api.World) (api.World, api.Errno) { return world.Cut(w, 99), api.OK }),
		plain("Ask", func(w api.World) (api.World, api.Errno) { return world.Ask(w, 99, "wien") }),
		plain("Ask, barred", func(w api.World) (api.World, api.Errno) { return world.Ask(w, 20, "wien") }),
		plain("Shut", func(w api.World) (api.World, api.Errno) { return world.Shut(w, 1) }),
		plain("Shut, barred", func(w api.World) (api.World, api.Errno) { return world.Shut(w, 2) }),
		{"End that ends well", func(w api.World) (api.World, api.Letter, api.Errno) { return world.End(w, 15) }},
		{"End that ends badly", func(w api.World) (api.World, api.Letter, api.Errno) { return world.End(w, 14) }},
		{"End, barred", func(w api.World) (api.World, api.Letter, api.Errno) { return world.End(w, 11) }},
		{"Answer", func(w api.World) (api.World, api.Letter, api.Errno) { return world.Answer(w, 22) }},
		{"Answer, barred", func(w api.World) (api.World, api.Letter, api.Errno) { return world.Answer(w, 20) }},
	}
}

// R4: what is handed in stays as it was, spare room included; an answer is memory of its own, apart from what was handed in and from another answer, behind an error, too.
func TestOwnMemory(t *testing.T) {
	for _, d := range calls() {
		w := roomy(busy())
		was := whole(w)
		first, _, _ := d.do(w)
		second, _, _ := d.do(w)
		if whole(w) != was {
			t.Errorf("%s: what was handed in is otherwise", d.what)
		}
		kept := copied(second)
		spoil(first)
		if whole(w) != was {
			t.Errorf("%s: the answer shares memory with what was handed in", d.what)
		}
		is(t, d.what+": another answer", second, kept)
		spoil(w)
		is(t, d.what+": what was handed in", second, kept)
	}
}

// R4: a world's plan is not the one that was handed in, and is its own.
func TestNewOwnMemory(t *testing.T) {
	p := roomy(busy()).Plan
	was := wholePlan(p)
	first, second := must(t)(world.New(p)), must(t)(world.New(p))
	spoil(first)
	if wholePlan(p) != was {
		t.Error("the world shares memory with the plan")
	}
	is(t, "another one", second, begun())
	spoil(api.World{Plan: p})
	is(t, "the plan", second, begun())
}

// R4: what only asks changes nothing.
func TestAsking(t *testing.T) {
	w, a, n := roomy(busy()), room(addresses(3), address(777)), room([]int{0, 1}, 777)
	was := whole(w)
	world.Ready(w, 13)
	world.Asked(w, 21)
	world.Dead(w, n...)
	world.Under(w, a...)
	world.Same(w, w)
	if whole(w) != was || !slices.Equal(a[:6], append(addresses(3), address(777), address(777), address(777))) || !slices.Equal(n[:5], []int{0, 1, 777, 777, 777}) {
		t.Error("what was handed in is otherwise")
	}
}

// R3: the same call answers the same, however often it is made.
func TestAgain(t *testing.T) {
	for _, d := range calls() {
		w, m, e := d.do(busy())
		for range 3 {
			again, letter, wrong := d.do(busy())
			is(t, d.what, again, w)
			if letter != m || wrong != e {
				t.Errorf("%s: %+v, %d, not %+v, %d", d.what, letter, wrong, m, e)
			}
		}
	}
}

// R1: long lists are gone over no longer than need be.
func TestLong(t *testing.T) {
	const many = 200000
	w := api.World{Plan: events(), Dials: make([]api.Dial, many), Looks: make([]api.Look, many), Socks: make([]api.Sock, many), Marks: make([]api.Mark, many)}
	for n := range many {
		w.Dials[n] = api.Dial{By: n, Addr: address(n % 60000)}
		w.Looks[n] = api.Look{By: n, Name: "wien"}
		w.Socks[n] = api.Sock{By: n, Dead: true}
	}
	all := make([]int, many)
	for n := range all {
		all[n] = n
	}
	if got := world.Under(w, addresses(60000)...); got != many {
		t.Error("under", got)
	}
	if !world.Dead(w, all...) || !world.Ready(w, many-1) || !world.Asked(w, many-1) || !world.Same(w, copied(w)) {
		t.Error("of many")
	}
	for _, d := range calls() {
		d.do(w)
	}
}

// The plan's own words hold in a world, too: what it tells is what was dialled and answered.
func TestAsThePlanTells(t *testing.T) {
	p := events()
	w := must(t)(world.New(p))
	count := map[api.Addr]int{}
	for n := range 40 {
		a := address(n * n % 7)
		w = must(t)(world.Dial(w, n, a))
		if want := plan.Fate(p, a, count[a]); w.Dials[n].Fate != want {
			t.Errorf("dial %d: %d, not %d", n, w.Dials[n].Fate, want)
		}
		count[a]++
	}
}
