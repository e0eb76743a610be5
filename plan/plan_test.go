package plan_test

import (
	"fmt"
	"reflect"
	"slices"
	"strings"
	"testing"

	"switchboard/api"
	"switchboard/plan"
)

const (
	mostInt  = int(^uint(0) >> 1)
	leastInt = -mostInt - 1

	// The limits, written out, so that the tests do not hang on what they test against.
	mostZones = 8
	mostFates = 32
	mostAddrs = 16
	mostTicks = 200
	mostDrops = 16

	ok      = int8(0)
	refused = int8(1)
	hangs   = int8(2)
)

// address answers the n-th of addresses that are all unlike.
func address(n int) api.Addr {
	if n%2 == 0 {
		return api.Addr{Fam: 4, G: [8]uint16{258, uint16(n)}, Port: 80}
	}
	return api.Addr{Fam: 6, G: [8]uint16{1, 2, 3, 4, 5, 6, 7, uint16(n)}, Port: 80}
}

// addresses answers the first many of them.
func addresses(many int) []api.Addr {
	return made(many, address)
}

// made answers a list of that many, each made by its place.
func made[T any](many int, of func(n int) T) []T {
	l := []T{}
	for n := range many {
		l = append(l, of(n))
	}
	return l
}

// zone and fates answer parts of a plan.
func zone(name string, answers ...[]api.Addr) api.Zone {
	return api.Zone{Name: name, Answers: answers}
}

func fates(a api.Addr, l ...int8) api.Fates {
	return api.Fates{Addr: a, L: l}
}

// name answers the n-th of names that are all unlike, and that folding does not change.
func name(n int) string {
	return fmt.Sprintf("host%d.example", n)
}

// full answers a plan that may be, with as much of everything as there may be.
func full() api.Plan {
	answer := func(n int) []api.Addr { return made(mostAddrs, func(k int) api.Addr { return address(n + k) }) }
	return api.Plan{
		Zones: made(mostZones, func(n int) api.Zone { return zone(name(n), made(mostFates, answer)...) }),
		Fates: made(mostFates, func(n int) api.Fates {
			return fates(address(n), made(mostFates, func(k int) int8 { return int8((n + k) % 3) })...)
		}),
		Ticks: mostTicks,
		Drops: made(mostDrops, func(n int) int { return n / 2 }),
	}
}

// small answers a plan that may be, with some of everything.
func small() api.Plan {
	return api.Plan{
		Zones: []api.Zone{
			zone("wien.example", []api.Addr{address(0), address(1)}, []api.Addr{address(1)}),
			zone("graz", []api.Addr{address(2)}),
		},
		Fates: []api.Fates{fates(address(0), ok, hangs), fates(address(1), refused), fates(address(2), ok)},
		Ticks: 9,
		Drops: []int{3, 0},
	}
}

// but answers a plan with a change.
func but(p api.Plan, change func(p *api.Plan)) api.Plan {
	p = copied(p)
	change(&p)
	return p
}

// copied answers p in memory of its own, at each depth; lists of nothing and none stay what they are.
func copied(p api.Plan) api.Plan {
	p.Zones = slices.Clone(p.Zones)
	for i := range p.Zones {
		p.Zones[i].Answers = slices.Clone(p.Zones[i].Answers)
		for k := range p.Zones[i].Answers {
			p.Zones[i].Answers[k] = slices.Clone(p.Zones[i].Answers[k])
		}
	}
	p.Fates = slices.Clone(p.Fates)
	for i := range p.Fates {
		p.Fates[i].L = slices.Clone(p.Fates[i].L)
	}
	p.Drops = slices.Clone(p.Drops)
	return p
}

// numbers are such as are asked for: below 0, the first ones, far behind the last one.
func numbers() []int {
	return []int{leastInt, leastInt + 1, -100, -2, -1, 0, 1, 2, 3, 4, 5, 31, 32, 33, 1 << 30, mostInt - 1, mostInt}
}

// place says which of length, at least one, is the n-th.
func place(n, length int) int {
	switch {
	case n < 0:
		return 0
	case n < length:
		return n
	}
	return length - 1
}

func check(t *testing.T, what string, p api.Plan, want api.Errno) {
	t.Helper()
	if got := plan.Check(p); got != want {
		t.Errorf("%s: %d, not %d", what, got, want)
	}
}

// The errors' numbers, as the chapter tells them.
func TestErrors(t *testing.T) {
	if api.ErrPlan != 90 || api.ErrNoName != 110 || api.OK != 0 || api.FtOK != ok || api.FtRefused != refused || api.FtHangs != hangs {
		t.Error(api.ErrPlan, api.ErrNoName, api.OK, api.FtOK, api.FtRefused, api.FtHangs)
	}
}

// P9.1: plans that may be, of nothing, of some, of as much as there may be.
func TestCheckMayBe(t *testing.T) {
	check(t, "nothing", api.Plan{}, api.OK)
	check(t, "lists of nothing", api.Plan{Zones: []api.Zone{}, Fates: []api.Fates{}, Drops: []int{}}, api.OK)
	check(t, "some", small(), api.OK)
	check(t, "all", full(), api.OK)
	check(t, "a zone alone", api.Plan{Zones: []api.Zone{zone("a", nil)}}, api.OK)
	check(t, "a row of fates alone", api.Plan{Fates: []api.Fates{fates(address(0), ok)}}, api.OK)
	for what, change := range map[string]func(p *api.Plan){
		"an answer without addresses":     func(p *api.Plan) { p.Zones[0].Answers[1] = nil },
		"an answer of nothing":            func(p *api.Plan) { p.Zones[0].Answers[1] = []api.Addr{} },
		"answers without addresses":       func(p *api.Plan) { p.Zones[0].Answers = [][]api.Addr{nil, {}, nil} },
		"the same address in two answers": func(p *api.Plan) { p.Zones[0].Answers[1] = slices.Clone(p.Zones[0].Answers[0]) },
		"the same address in two zones":   func(p *api.Plan) { p.Zones[1].Answers = slices.Clone(p.Zones[0].Answers) },
		"an address without fates":        func(p *api.Plan) { p.Zones[1].Answers[0][0] = address(77) },
		"fates of an address of no zone":  func(p *api.Plan) { p.Fates[2].Addr = address(77) },
		"another port is another address": func(p *api.Plan) { p.Fates[1].Addr = p.Fates[0].Addr; p.Fates[1].Addr.Port++ },
		"zones without rows of fates":     func(p *api.Plan) { p.Fates = nil },
		"rows of fates without zones":     func(p *api.Plan) { p.Zones = nil },
		"no ticks":                        func(p *api.Plan) { p.Ticks = 0 },
		"no drops":                        func(p *api.Plan) { p.Drops = nil },
		"drops of the same ones":          func(p *api.Plan) { p.Drops = []int{5, 5, 5} },
		"drops from 0 to the greatest":    func(p *api.Plan) { p.Drops = []int{mostInt, 0, 1, mostInt - 1} },
		"a name with great wide letters":  func(p *api.Plan) { p.Zones[0].Name = "wi\u0112n" },
		"a name with small wide letters":  func(p *api.Plan) { p.Zones[0].Name = "\u00E4\u00DF.\u024F" },
		"a name of a sign":                func(p *api.Plan) { p.Zones[0].Name = "7" },
		"a name of 64 bytes":              func(p *api.Plan) { p.Zones[0].Name = strings.Repeat("a", 64) },
		"a name that begins as another":   func(p *api.Plan) { p.Zones[1].Name = p.Zones[0].Name + "s" },
	} {
		check(t, what, but(small(), change), api.OK)
	}
}

// P9.1: as many as there may be, and one more.
func TestCheckCounts(t *testing.T) {
	for what, most := range map[string]int{"zones": mostZones, "answers": mostFates, "addresses": mostAddrs, "rows": mostFates, "fates": mostFates, "drops": mostDrops} {
		for count := range most + 3 {
			p := but(small(), func(p *api.Plan) {
				switch what {
				case "zones":
					p.Zones = made(count, func(n int) api.Zone { return zone(name(n), addresses(1)) })
				case "answers":
					p.Zones[1].Answers = make([][]api.Addr, count)
				case "addresses":
					p.Zones[0].Answers[1] = addresses(count)
				case "rows":
					p.Fates = made(count, func(n int) api.Fates { return fates(address(n), ok) })
				case "fates":
					p.Fates[2].L = made(count, func(n int) int8 { return int8(n % 3) })
				case "drops":
					p.Drops = made(count, func(n int) int { return n })
				}
			})
			want := api.OK
			if count > most || count == 0 && (what == "answers" || what == "fates") {
				want = api.ErrPlan
			}
			check(t, fmt.Sprint(count, " ", what), p, want)
		}
	}
}

// P9.1: one more of each than there may be, wherever it stands in a plan that is full.
func TestCheckOneMoreThanFull(t *testing.T) {
	for what, change := range map[string]func(p *api.Plan){
		"a zone":                         func(p *api.Plan) { p.Zones = append(p.Zones, zone("one-more", nil)) },
		"a row of fates":                 func(p *api.Plan) { p.Fates = append(p.Fates, fates(address(900), ok)) },
		"a drop":                         func(p *api.Plan) { p.Drops = append(p.Drops, 0) },
		"a tick":                         func(p *api.Plan) { p.Ticks++ },
		"an answer of the first zone":    func(p *api.Plan) { p.Zones[0].Answers = append(p.Zones[0].Answers, nil) },
		"an answer of the last zone":     func(p *api.Plan) { z := &p.Zones[mostZones-1]; z.Answers = append(z.Answers, nil) },
		"an address of the first answer": func(p *api.Plan) { l := p.Zones[0].Answers; l[0] = append(l[0], address(900)) },
		"an address of the last answer": func(p *api.Plan) {
			l := p.Zones[mostZones-1].Answers
			l[mostFates-1] = append(l[mostFates-1], address(900))
		},
		"a fate of the first row": func(p *api.Plan) { p.Fates[0].L = append(p.Fates[0].L, ok) },
		"a fate of the last row":  func(p *api.Plan) { f := &p.Fates[mostFates-1]; f.L = append(f.L, ok) },
	} {
		check(t, what, but(full(), change), api.ErrPlan)
	}
}

// P9.1: a zone's name, wherever the zone stands: no name, not its own folded one, there twice.
func TestCheckNames(t *testing.T) {
	bad := []string{
		"", ".", "-", "a..b", ".a", "a.", "-a", "a-", "a_b", "a b", "a:80", "\u00D7", "\u0250", "a\xff", "\xc3", strings.Repeat("a", 65),
		"Wien", "wieN.example", "\u00C4", "a.\u00DE", "A",
	}
	for at := range mostZones {
		for _, text := range bad {
			check(t, fmt.Sprintf("%q at %d", text, at), but(full(), func(p *api.Plan) { p.Zones[at].Name = text }), api.ErrPlan)
		}
		for other := range mostZones {
			want := api.OK
			if other != at {
				want = api.ErrPlan
			}
			check(t, fmt.Sprintf("zone %d has the name of zone %d", at, other), but(full(), func(p *api.Plan) { p.Zones[at].Name = name(other) }), want)
		}
	}
	check(t, "twice the same zone", api.Plan{Zones: []api.Zone{zone("a", nil), zone("a", nil)}}, api.ErrPlan)
	check(t, "a name and one that folds to it", api.Plan{Zones: []api.Zone{zone("a", nil), zone("A", nil)}}, api.ErrPlan)
}

// mayNot are values that are no addresses.
func mayNot() []api.Addr {
	four, six := address(0), address(1)
	var l []api.Addr
	for _, port := range []int{leastInt, -1, 0, 65536, mostInt} {
		a, b := four, six
		a.Port, b.Port = port, port
		l = append(l, a, b)
	}
	for _, fam := range []int8{-128, -4, 0, 3, 5, 7, 127} {
		a := four
		a.Fam = fam
		l = append(l, a)
	}
	for g := 2; g < 8; g++ {
		a := four
		a.G[g] = 1
		l = append(l, a)
	}
	return append(l, api.Addr{})
}

// P9.1: addresses of an answer, wherever they stand: ones that may not be, ones that are there twice.
func TestCheckAddresses(t *testing.T) {
	last := api.Plan{Zones: []api.Zone{zone("a", addresses(1)), zone("b", nil, addresses(mostAddrs))}}
	answer := func(p *api.Plan) []api.Addr { return p.Zones[1].Answers[1] }
	check(t, "as it is", last, api.OK)
	for at := range mostAddrs {
		for _, a := range mayNot() {
			check(t, fmt.Sprint(a, " at ", at), but(last, func(p *api.Plan) { answer(p)[at] = a }), api.ErrPlan)
		}
		for other := range mostAddrs {
			want := api.OK
			if other != at {
				want = api.ErrPlan
			}
			check(t, fmt.Sprint(at, " is ", other), but(last, func(p *api.Plan) { answer(p)[at] = address(other) }), want)
		}
	}
	for n := range mostZones {
		for k := range mostFates {
			check(t, fmt.Sprintf("answer %d of zone %d", k, n), but(full(), func(p *api.Plan) { p.Zones[n].Answers[k][3].Port = 0 }), api.ErrPlan)
			check(t, fmt.Sprintf("twice in answer %d of zone %d", k, n), but(full(), func(p *api.Plan) { l := p.Zones[n].Answers[k]; l[15] = l[0] }), api.ErrPlan)
		}
	}
}

// P9.1: rows of fates, wherever they stand: of an address that may not be or that another row has, without fates.
func TestCheckRowsOfFates(t *testing.T) {
	for at := range mostFates {
		for _, a := range mayNot() {
			check(t, fmt.Sprint(a, " at ", at), but(full(), func(p *api.Plan) { p.Fates[at].Addr = a }), api.ErrPlan)
		}
		for other := range mostFates {
			want := api.OK
			if other != at {
				want = api.ErrPlan
			}
			check(t, fmt.Sprint(at, " is ", other), but(full(), func(p *api.Plan) { p.Fates[at].Addr = address(other) }), want)
		}
		check(t, fmt.Sprint("none at ", at), but(full(), func(p *api.Plan) { p.Fates[at].L = nil }), api.ErrPlan)
		check(t, fmt.Sprint("a list of nothing at ", at), but(full(), func(p *api.Plan) { p.Fates[at].L = []int8{} }), api.ErrPlan)
	}
	for at := range mostZones {
		check(t, fmt.Sprint("a zone without answers at ", at), but(full(), func(p *api.Plan) { p.Zones[at].Answers = nil }), api.ErrPlan)
		check(t, fmt.Sprint("a zone of no answers at ", at), but(full(), func(p *api.Plan) { p.Zones[at].Answers = [][]api.Addr{} }), api.ErrPlan)
	}
}

// P9.1: each of the numbers that a fate may be told by, wherever it stands.
func TestCheckFates(t *testing.T) {
	for fate := -128; fate <= 127; fate++ {
		want := api.ErrPlan
		if fate == 0 || fate == 1 || fate == 2 {
			want = api.OK
		}
		for _, row := range []int{0, 7, mostFates - 1} {
			for _, at := range []int{0, 1, mostFates - 1} {
				check(t, fmt.Sprintf("%d at %d of row %d", fate, at, row), but(full(), func(p *api.Plan) { p.Fates[row].L[at] = int8(fate) }), want)
			}
		}
	}
}

// P9.1: ticks and drops, below what they may be, at it, and above.
func TestCheckNumbers(t *testing.T) {
	for _, n := range append(numbers(), mostTicks-1, mostTicks, mostTicks+1) {
		want := api.ErrPlan
		if n >= 0 && n <= mostTicks {
			want = api.OK
		}
		check(t, fmt.Sprint("ticks ", n), but(full(), func(p *api.Plan) { p.Ticks = n }), want)
		check(t, fmt.Sprint("ticks alone ", n), api.Plan{Ticks: n}, want)
		want = api.OK
		if n < 0 {
			want = api.ErrPlan
		}
		for at := range mostDrops {
			check(t, fmt.Sprintf("drop %d at %d", n, at), but(full(), func(p *api.Plan) { p.Drops[at] = n }), want)
		}
	}
}

// P9.1: plans that are far too long are looked at no longer than need be.
func TestCheckLong(t *testing.T) {
	const many = 100000
	check(t, "zones", api.Plan{Zones: make([]api.Zone, many)}, api.ErrPlan)
	check(t, "answers", api.Plan{Zones: []api.Zone{zone("a", make([][]api.Addr, many)...)}}, api.ErrPlan)
	check(t, "addresses", api.Plan{Zones: []api.Zone{zone("a", addresses(many))}}, api.ErrPlan)
	check(t, "rows", api.Plan{Fates: made(many, func(n int) api.Fates { return fates(address(n), ok) })}, api.ErrPlan)
	check(t, "fates", api.Plan{Fates: []api.Fates{fates(address(0), make([]int8, many)...)}}, api.ErrPlan)
	check(t, "drops", api.Plan{Drops: make([]int, many)}, api.ErrPlan)
}

// P9.1: the same in all fields, whether it may be or not; lists of nothing and none are alike at each depth.
func TestSameAlike(t *testing.T) {
	wrong := api.Plan{Zones: []api.Zone{zone("A"), zone("A"), zone("\xff", []api.Addr{{}, {}})}, Fates: []api.Fates{fates(api.Addr{}), fates(api.Addr{}, -128, 127)}, Ticks: leastInt, Drops: []int{-1, leastInt}}
	for _, p := range []api.Plan{{}, small(), full(), wrong} {
		if !plan.Same(p, p) || !plan.Same(p, copied(p)) || !plan.Same(copied(p), p) {
			t.Error("a plan is not the same as its copy", p)
		}
	}
	for what, l := range map[string][2]api.Plan{
		"lists":   {{}, {Zones: []api.Zone{}, Fates: []api.Fates{}, Drops: []int{}}},
		"zones":   {{Ticks: 1}, {Zones: []api.Zone{}, Ticks: 1}},
		"rows":    {{Ticks: 1}, {Fates: []api.Fates{}, Ticks: 1}},
		"drops":   {{Ticks: 1}, {Drops: []int{}, Ticks: 1}},
		"answers": {{Zones: []api.Zone{{Name: "a"}}}, {Zones: []api.Zone{{Name: "a", Answers: [][]api.Addr{}}}}},
		"answer":  {{Zones: []api.Zone{zone("a", nil)}}, {Zones: []api.Zone{zone("a", []api.Addr{})}}},
		"fates":   {{Fates: []api.Fates{{Addr: address(0)}}}, {Fates: []api.Fates{{Addr: address(0), L: []int8{}}}}},
	} {
		if !plan.Same(l[0], l[1]) || !plan.Same(l[1], l[0]) {
			t.Errorf("%s: of none and of nothing are not the same", what)
		}
	}
}

// changes are such as change one field alone, each at some depth, and make rows of unlike length.
func changes() map[string]func(p *api.Plan) {
	return map[string]func(p *api.Plan){
		"Ticks":                   func(p *api.Plan) { p.Ticks++ },
		"the first drop":          func(p *api.Plan) { p.Drops[0]++ },
		"the last drop":           func(p *api.Plan) { p.Drops[1]++ },
		"drops turned":            func(p *api.Plan) { slices.Reverse(p.Drops) },
		"a drop fewer":            func(p *api.Plan) { p.Drops = p.Drops[:1] },
		"a drop more":             func(p *api.Plan) { p.Drops = append(p.Drops, 0) },
		"no drops":                func(p *api.Plan) { p.Drops = nil },
		"the first zone's name":   func(p *api.Plan) { p.Zones[0].Name = "wien" },
		"a great letter":          func(p *api.Plan) { p.Zones[0].Name = "Wien.example" },
		"the last zone's name":    func(p *api.Plan) { p.Zones[1].Name = "" },
		"zones turned":            func(p *api.Plan) { slices.Reverse(p.Zones) },
		"a zone fewer":            func(p *api.Plan) { p.Zones = p.Zones[:1] },
		"a zone more":             func(p *api.Plan) { p.Zones = append(p.Zones, api.Zone{}) },
		"no zones":                func(p *api.Plan) { p.Zones = nil },
		"answers turned":          func(p *api.Plan) { slices.Reverse(p.Zones[0].Answers) },
		"an answer fewer":         func(p *api.Plan) { p.Zones[0].Answers = p.Zones[0].Answers[:1] },
		"an answer more":          func(p *api.Plan) { p.Zones[1].Answers = append(p.Zones[1].Answers, nil) },
		"no answers":              func(p *api.Plan) { p.Zones[1].Answers = nil },
		"an address's family":     func(p *api.Plan) { p.Zones[0].Answers[1][0].Fam = 4 },
		"an address's port":       func(p *api.Plan) { p.Zones[1].Answers[0][0].Port++ },
		"addresses turned":        func(p *api.Plan) { slices.Reverse(p.Zones[0].Answers[0]) },
		"an address fewer":        func(p *api.Plan) { p.Zones[0].Answers[0] = p.Zones[0].Answers[0][:1] },
		"an address more":         func(p *api.Plan) { l := p.Zones[0].Answers; l[1] = append(l[1], api.Addr{}) },
		"no addresses":            func(p *api.Plan) { p.Zones[0].Answers[1] = nil },
		"a row's address":         func(p *api.Plan) { p.Fates[1].Addr = address(9) },
		"a row's family":          func(p *api.Plan) { p.Fates[1].Addr.Fam++ },
		"a row's port":            func(p *api.Plan) { p.Fates[2].Addr.Port++ },
		"rows turned":             func(p *api.Plan) { slices.Reverse(p.Fates) },
		"a row fewer":             func(p *api.Plan) { p.Fates = p.Fates[:2] },
		"a row more":              func(p *api.Plan) { p.Fates = append(p.Fates, api.Fates{}) },
		"no rows":                 func(p *api.Plan) { p.Fates = nil },
		"the first fate":          func(p *api.Plan) { p.Fates[0].L[0] = hangs },
		"the last fate":           func(p *api.Plan) { p.Fates[2].L[0] = -128 },
		"fates turned":            func(p *api.Plan) { slices.Reverse(p.Fates[0].L) },
		"a fate fewer":            func(p *api.Plan) { p.Fates[0].L = p.Fates[0].L[:1] },
		"a fate more":             func(p *api.Plan) { p.Fates[2].L = append(p.Fates[2].L, ok) },
		"no fates":                func(p *api.Plan) { p.Fates[1].L = nil },
		"Ticks that count alike":  func(p *api.Plan) { p.Ticks = leastInt },
		"the greatest of ticks":   func(p *api.Plan) { p.Ticks = mostInt },
		"a drop below all others": func(p *api.Plan) { p.Drops[0] = leastInt },
	}
}

// P9.1: not the same, where one field alone is another one.
func TestSameUnlike(t *testing.T) {
	all := changes()
	for g := range 8 {
		all[fmt.Sprint("group of an answer ", g)] = func(p *api.Plan) { p.Zones[0].Answers[0][1].G[g]++ }
		all[fmt.Sprint("group of a row ", g)] = func(p *api.Plan) { p.Fates[1].Addr.G[g]++ }
	}
	for what, change := range all {
		p, other := small(), but(small(), change)
		if plan.Same(p, other) || plan.Same(other, p) {
			t.Errorf("%s: the same", what)
		}
		if !plan.Same(other, copied(other)) {
			t.Errorf("%s: not the same as itself", what)
		}
	}
}

// P9.2: the n-th answer, of zones of one to several answers, and of as many as there may be.
func TestAnswer(t *testing.T) {
	for _, length := range []int{1, 2, 3, 4, mostFates, mostFates + 5} {
		answers := made(length, func(n int) []api.Addr { return made(n%3+1, func(k int) api.Addr { return address(10*n + k) }) })
		p := api.Plan{Zones: []api.Zone{zone("other", addresses(1)), zone("wien", answers...), zone("graz", addresses(2))}}
		for _, n := range append(numbers(), length-1, length, length+1) {
			got, e := plan.Answer(p, "wien", n)
			if want := answers[place(n, length)]; !slices.Equal(got, want) || e != api.OK {
				t.Errorf("%d of %d: %v, %d, not %v", n, length, got, e, want)
			}
		}
	}
}

// P9.2: the examples and the edges, each by itself.
func TestAnswerOne(t *testing.T) {
	first, second := []api.Addr{address(1)}, []api.Addr{address(2), address(3)}
	p := api.Plan{Zones: []api.Zone{zone("a", first, second)}}
	for n, want := range map[int][]api.Addr{leastInt: first, -1: first, 0: first, 1: second, 2: second, 5: second, mostInt: second} {
		if got, e := plan.Answer(p, "a", n); !slices.Equal(got, want) || e != api.OK {
			t.Errorf("%d: %v, %d", n, got, e)
		}
	}
}

// noName asks that p has no n-th answer of name.
func noName(t *testing.T, p api.Plan, name string, n int) {
	t.Helper()
	if got, e := plan.Answer(p, name, n); len(got) != 0 || e != api.ErrNoName {
		t.Errorf("%q, %d: %v, %d", name, n, got, e)
	}
}

// P9.2: names without a zone, zones without answers, answers without addresses.
func TestAnswerNoName(t *testing.T) {
	l := addresses(2)
	p := api.Plan{Zones: []api.Zone{
		zone("wien.example", l), zone("none"), {Name: "nothing", Answers: [][]api.Addr{}},
		zone("empty", nil), zone("first", nil, l), zone("last", l, []api.Addr{}), zone("between", l, nil, l),
	}}
	for _, n := range numbers() {
		for _, text := range []string{"", "wien", "wien.exampl", "wien.examples", "Wien.Example", "WIEN.EXAMPLE", " wien.example", "wien.example:80", "graz", "\xff", "none", "nothing", "empty"} {
			noName(t, p, text, n)
		}
		noName(t, api.Plan{}, "wien.example", n)
	}
	for name, bad := range map[string][]int{"first": {leastInt, -1, 0}, "last": {1, 2, mostInt}, "between": {1}} {
		for _, n := range []int{leastInt, -1, 0, 1, 2, mostInt} {
			if slices.Contains(bad, n) {
				noName(t, p, name, n)
			} else if got, e := plan.Answer(p, name, n); !slices.Equal(got, l) || e != api.OK {
				t.Errorf("%q, %d: %v, %d", name, n, got, e)
			}
		}
	}
}

// P9.2: of a name that the plan has twice the first counts, with whatever it has.
func TestAnswerFirst(t *testing.T) {
	one, two := []api.Addr{address(1)}, []api.Addr{address(2)}
	p := api.Plan{Zones: []api.Zone{
		zone("a", one), zone("b"), zone("c", nil), zone("d", one, nil),
		zone("a", two, two), zone("b", two), zone("c", two), zone("d", two, two),
	}}
	for _, n := range numbers() {
		if got, e := plan.Answer(p, "a", n); !slices.Equal(got, one) || e != api.OK {
			t.Errorf("%d: %v, %d", n, got, e)
		}
		noName(t, p, "b", n)
		noName(t, p, "c", n)
	}
	noName(t, p, "d", 1)
	noName(t, p, "d", 2)
}

// P9.2: names and addresses that may not be, and answers that are too long, are answered all the same.
func TestAnswerOfWrongPlans(t *testing.T) {
	long := append(addresses(mostAddrs+4), address(0), api.Addr{}, api.Addr{Fam: -1, Port: leastInt})
	for _, text := range []string{"", "Wien", "a..b", "\xff\xfe", strings.Repeat("a", 1000)} {
		p := api.Plan{Zones: []api.Zone{zone(text, long), zone("b", nil)}, Ticks: -1, Drops: []int{-1}}
		for _, n := range numbers() {
			if got, e := plan.Answer(p, text, n); !slices.Equal(got, long) || e != api.OK {
				t.Errorf("%q, %d: %v, %d", text, n, got, e)
			}
		}
	}
}

// P9.2: the n-th fate, of rows of one to several fates, and of as many as there may be.
func TestFate(t *testing.T) {
	for _, length := range []int{1, 2, 3, 4, mostFates, mostFates + 5} {
		for shift := range 3 {
			l := made(length, func(n int) int8 { return int8((n + shift) % 3) })
			p := api.Plan{Fates: []api.Fates{fates(address(1), hangs), fates(address(2), l...), fates(address(3), ok)}}
			for _, n := range append(numbers(), length-1, length, length+1) {
				if got, want := plan.Fate(p, address(2), n), l[place(n, length)]; got != want {
					t.Errorf("%d of %d: %d, not %d", n, length, got, want)
				}
			}
		}
	}
}

// P9.2: of an address without a row, and of a row without fates: FtRefused.
func TestFateRefused(t *testing.T) {
	p := api.Plan{Fates: []api.Fates{fates(address(1)), {Addr: address(3), L: []int8{}}, fates(address(5), ok)}}
	near := address(5)
	near.Port++
	for _, n := range numbers() {
		for _, a := range append(mayNot(), address(0), address(1), address(3), near) {
			if got := plan.Fate(p, a, n); got != refused {
				t.Errorf("%v, %d: %d", a, n, got)
			}
		}
		if got := plan.Fate(api.Plan{}, address(5), n); got != refused {
			t.Errorf("%d of no plan: %d", n, got)
		}
	}
}

// P9.2: an address is another one, if it differs in one field alone.
func TestFateOfTheSame(t *testing.T) {
	a := address(1)
	p := api.Plan{Fates: []api.Fates{fates(a, ok)}}
	others := []api.Addr{a, a}
	others[0].Fam++
	others[1].Port--
	for g := range 8 {
		other := a
		other.G[g]++
		others = append(others, other)
	}
	if plan.Fate(p, a, 0) != ok {
		t.Error("its own")
	}
	for _, other := range others {
		if got := plan.Fate(p, other, 0); got != refused {
			t.Errorf("%v: %d", other, got)
		}
	}
}

// P9.2: of an address that the plan has twice the first counts, if it has fates or not.
func TestFateFirst(t *testing.T) {
	p := api.Plan{Fates: []api.Fates{fates(address(1), hangs), fates(address(2)), fates(address(1), ok, ok), fates(address(2), ok)}}
	for _, n := range numbers() {
		if a, b := plan.Fate(p, address(1), n), plan.Fate(p, address(2), n); a != hangs || b != refused {
			t.Errorf("%d: %d, %d", n, a, b)
		}
	}
}

// P9.2: addresses that may not be, and fates that are none, are answered all the same.
func TestFateOfWrongPlans(t *testing.T) {
	for _, a := range mayNot() {
		for _, fate := range []int8{-128, -1, ok, refused, hangs, 3, 127} {
			p := api.Plan{Fates: []api.Fates{fates(address(0), ok), fates(a, fate)}, Ticks: -1, Drops: []int{-1}}
			for _, n := range numbers() {
				if got := plan.Fate(p, a, n); got != fate {
					t.Errorf("%v, %d: %d, not %d", a, n, got, fate)
				}
			}
		}
	}
}

// rows are all rows of up to length of the fates.
func rows(length int, with ...int8) [][]int8 {
	all := [][]int8{nil}
	from := 0
	for range length {
		to := len(all)
		for _, l := range all[from:to] {
			for _, fate := range with {
				all = append(all, append(slices.Clone(l), fate))
			}
		}
		from = to
	}
	return all
}

// P9.2: whatever few fates two addresses have: of no address, of one, of both, of one twice, of one without a row.
func TestGood(t *testing.T) {
	all := rows(3, ok, refused, hangs, -1)
	good := func(l []int8) bool {
		return len(l) > 0 && !slices.ContainsFunc(l, func(fate int8) bool { return fate != ok })
	}
	a, b, none := address(1), address(2), address(3)
	for _, one := range all {
		for _, two := range all {
			p := api.Plan{Fates: []api.Fates{fates(a, one...), fates(b, two...)}}
			for _, c := range []struct {
				l    []api.Addr
				want bool
			}{
				{nil, true}, {[]api.Addr{}, true},
				{[]api.Addr{a}, good(one)}, {[]api.Addr{b}, good(two)},
				{[]api.Addr{a, a}, good(one)}, {[]api.Addr{b, b, b}, good(two)},
				{[]api.Addr{a, b}, good(one) && good(two)}, {[]api.Addr{b, a}, good(one) && good(two)},
				{[]api.Addr{none}, false}, {[]api.Addr{a, none}, false}, {[]api.Addr{none, b}, false},
			} {
				if got := plan.Good(p, c.l...); got != c.want {
					t.Fatalf("%v, %v, %v: %t", one, two, c.l, got)
				}
			}
		}
	}
}

// P9.2: of no plan, and of addresses and plans that may not be.
func TestGoodOfWrongPlans(t *testing.T) {
	if !plan.Good(api.Plan{}) || plan.Good(api.Plan{}, address(1)) || plan.Good(api.Plan{}, api.Addr{}) {
		t.Error("of no plan")
	}
	for _, a := range mayNot() {
		p := api.Plan{Zones: []api.Zone{zone("A", []api.Addr{a})}, Fates: []api.Fates{fates(address(1), ok), fates(a, made(mostFates+9, func(int) int8 { return ok })...)}, Ticks: -1}
		if !plan.Good(p, a) || !plan.Good(p, address(1), a, a) || plan.Good(p, a, address(3)) {
			t.Error(a)
		}
	}
	near := address(1)
	near.G[7]++
	if plan.Good(api.Plan{Fates: []api.Fates{fates(address(1), ok)}}, near) {
		t.Error("another one of which only a group differs")
	}
}

// P9.2: of an address that the plan has twice the first row counts for Good, too.
func TestGoodFirst(t *testing.T) {
	for _, first := range rows(2, ok, hangs) {
		for _, second := range rows(2, ok, hangs) {
			p := api.Plan{Fates: []api.Fates{fates(address(9), refused), fates(address(1), first...), fates(address(1), second...)}}
			want := plan.Good(api.Plan{Fates: []api.Fates{fates(address(1), first...)}}, address(1))
			if got := plan.Good(p, address(1)); got != want {
				t.Errorf("%v, then %v: %t", first, second, got)
			}
		}
	}
	if p := (api.Plan{Fates: []api.Fates{fates(address(1)), fates(address(1), ok)}}); plan.Good(p, address(1)) {
		t.Error("a first row without fates")
	}
	if p := (api.Plan{Fates: []api.Fates{fates(address(1), ok), fates(address(1), refused)}}); !plan.Good(p, address(1)) {
		t.Error("a second row")
	}
}

// P9.2: many addresses, many rows, rows of many fates: each is looked at once.
func TestGoodLong(t *testing.T) {
	const many = 50000
	of := func(n int) api.Addr { return api.Addr{Fam: 6, G: [8]uint16{uint16(n >> 16), uint16(n)}, Port: 80} }
	p := api.Plan{Fates: made(many, func(n int) api.Fates { return fates(of(n), ok) })}
	p.Fates[0].L = make([]int8, many)
	l := made(many, of)
	if !plan.Good(p, l...) || !plan.Good(p, made(many, func(int) api.Addr { return of(0) })...) || plan.Good(p, append(l, of(many))...) {
		t.Error("many")
	}
}

// P9.3: in bytewise order, each once, of any plan; bytes above 127 stand behind all others.
func TestNames(t *testing.T) {
	for _, c := range []struct{ zones, want []string }{
		{nil, nil},
		{[]string{"a"}, []string{"a"}},
		{[]string{"b", "a"}, []string{"a", "b"}},
		{[]string{"wien.example", "graz", "linz.example"}, []string{"graz", "linz.example", "wien.example"}},
		{[]string{"b", "a", "b", "a", "b"}, []string{"a", "b"}},
		{[]string{"a", "a", "a"}, []string{"a"}},
		{[]string{"abc", "ab", "a", "abd", "a.b", "a-b", "a0"}, []string{"a", "a-b", "a.b", "a0", "ab", "abc", "abd"}},
		{[]string{"10", "9", "1"}, []string{"1", "10", "9"}},
		{[]string{"\u00E4", "z", "\u0101", "a\u00E4", "az"}, []string{"az", "a\u00E4", "z", "\u00E4", "\u0101"}},
		{[]string{"", "B", "a", "\xff", "\x80", "a..b", "A"}, []string{"", "A", "B", "a", "a..b", "\x80", "\xff"}},
	} {
		var p api.Plan
		for _, text := range c.zones {
			p.Zones = append(p.Zones, zone(text))
		}
		if got := plan.Names(p); !slices.Equal(got, c.want) {
			t.Errorf("%q: %q, not %q", c.zones, got, c.want)
		}
	}
}

// P9.3: in whatever order the zones stand, again and again.
func TestNamesOfAnyOrder(t *testing.T) {
	want := made(mostZones, name)
	for turn := range mostZones {
		for step := 1; step < mostZones; step += 2 {
			p := api.Plan{Zones: made(mostZones, func(n int) api.Zone { return zone(name((turn + n*step) % mostZones)) })}
			p.Zones = append(p.Zones, p.Zones[turn])
			for range 5 {
				if got := plan.Names(p); !slices.Equal(got, want) {
					t.Fatalf("%d, %d: %q", turn, step, got)
				}
			}
		}
	}
}

// P9.3: names of zones alone: whatever else a plan has.
func TestNamesOfPlans(t *testing.T) {
	if got := plan.Names(full()); !slices.Equal(got, made(mostZones, name)) {
		t.Errorf("%q", got)
	}
	if got := plan.Names(small()); !slices.Equal(got, []string{"graz", "wien.example"}) {
		t.Errorf("%q", got)
	}
	if got := plan.Names(but(small(), func(p *api.Plan) { p.Zones = nil })); len(got) != 0 {
		t.Errorf("%q", got)
	}
}

// P9.4: from some n on nothing changes, and what is good is FtOK whenever it is dialled.
func TestWhatStays(t *testing.T) {
	p := full()
	p.Fates[4].L = []int8{ok, ok, ok}
	p.Fates[5].L = []int8{ok}
	for _, text := range plan.Names(p) {
		last, e := plan.Answer(p, text, mostFates-1)
		for _, n := range []int{mostFates, mostFates + 1, 1000, mostInt} {
			if got, f := plan.Answer(p, text, n); !slices.Equal(got, last) || f != e {
				t.Errorf("%q, %d: %v, %d", text, n, got, f)
			}
		}
	}
	for k := range mostFates + 3 {
		a := address(k)
		last := plan.Fate(p, a, mostFates-1)
		always := true
		for _, n := range append(made(mostFates+3, func(n int) int { return n }), 1000, mostInt, -1, leastInt) {
			fate := plan.Fate(p, a, n)
			always = always && fate == ok
			if n >= mostFates && fate != last {
				t.Errorf("%v, %d: %d", a, n, fate)
			}
		}
		if got := plan.Good(p, a); got != always || got != (k == 4 || k == 5) {
			t.Errorf("%v: good %t, always FtOK %t", a, got, always)
		}
	}
}

// The same call is answered the same again.
func TestAgain(t *testing.T) {
	for _, p := range []api.Plan{{}, small(), full()} {
		for range 3 {
			if plan.Check(p) != api.OK || !plan.Same(p, p) || !slices.Equal(plan.Names(p), plan.Names(p)) {
				t.Error("another answer")
			}
		}
	}
}

// withRoom answers l in memory of its own with room behind it, in which guards stand.
func withRoom[T any](l []T, guard T) []T {
	return append(slices.Clone(l), guard, guard)[:len(l)]
}

// roomy answers p with such room behind each of its lists.
func roomy(p api.Plan) api.Plan {
	p.Zones = withRoom(p.Zones, zone("guard"))
	for i := range p.Zones {
		z := &p.Zones[i]
		z.Answers = withRoom(z.Answers, addresses(3))
		for k := range z.Answers {
			z.Answers[k] = withRoom(z.Answers[k], address(90))
		}
	}
	p.Fates = withRoom(p.Fates, fates(address(91), 92))
	for i := range p.Fates {
		p.Fates[i].L = withRoom(p.Fates[i].L, 93)
	}
	p.Drops = withRoom(p.Drops, 94)
	return p
}

// shown tells all that stands in p, a plan with room, and in that room.
func shown(p api.Plan) string {
	text := fmt.Sprint(p.Ticks, p.Drops[:len(p.Drops)+2], p.Zones[:len(p.Zones)+2], p.Fates[:len(p.Fates)+2])
	for _, z := range p.Zones {
		text += fmt.Sprint(z.Answers[:len(z.Answers)+2])
		for _, answer := range z.Answers {
			text += fmt.Sprint(answer[:len(answer)+2])
		}
	}
	for _, f := range p.Fates {
		text += fmt.Sprint(f.L[:len(f.L)+2])
	}
	return text
}

// P9.1 to P9.3, and R4: what is handed in stays as it is, the room behind it included.
func TestHandedIn(t *testing.T) {
	for _, p := range []api.Plan{{}, small(), full()} {
		long := roomy(p)
		untouched := shown(long)
		l := withRoom(addresses(3), address(95))
		if plan.Check(long) != api.OK || !plan.Same(long, p) || !plan.Same(p, long) {
			t.Error("room behind a list is nothing to what it has")
		}
		plan.Good(long, l...)
		for _, n := range numbers() {
			plan.Fate(long, address(0), n)
			for _, text := range plan.Names(long) {
				answer, _ := plan.Answer(long, text, n)
				spoil(answer)
			}
		}
		if shown(long) != untouched || !slices.Equal(l[:5], append(addresses(3), address(95), address(95))) {
			t.Error("what was handed in was changed")
		}
	}
}

// spoil writes over all of l, the room behind it, and what is appended to it.
func spoil(l []api.Addr) {
	bad := api.Addr{Fam: 99}
	for _, all := range [][]api.Addr{l[:cap(l)], append(l, bad)} {
		for i := range all {
			all[i] = bad
		}
	}
}

// P9.2, P9.3, and R4: an answer is in memory of its own, and is not what was handed in.
func TestOwnMemory(t *testing.T) {
	p := small()
	untouched := copied(p)
	for n, want := range [][]api.Addr{{address(0), address(1)}, {address(1)}} {
		first, _ := plan.Answer(p, "wien.example", n)
		second, _ := plan.Answer(p, "wien.example", n)
		spoil(first)
		if !slices.Equal(second, want) || !reflect.DeepEqual(p, untouched) {
			t.Error(n, second, p)
		}
	}
	kept, _ := plan.Answer(p, "graz", 0)
	names := plan.Names(p)
	other := plan.Names(p)
	for i := range names {
		names[i] = "spoilt"
	}
	p.Zones[1].Answers[0][0] = api.Addr{}
	p.Zones[0].Name = "spoilt"
	if !slices.Equal(kept, []api.Addr{address(2)}) || !slices.Equal(other, []string{"graz", "wien.example"}) {
		t.Error(kept, other)
	}
}

// The chapter's examples.
func TestExamples(t *testing.T) {
	p := api.Plan{Zones: []api.Zone{zone("a", addresses(1), addresses(2))}}
	if got, e := plan.Answer(p, "a", 5); !slices.Equal(got, addresses(2)) || e != api.OK {
		t.Error("answers of two, n 5:", got, e)
	}
	if got := plan.Fate(p, address(0), 0); got != refused {
		t.Error("an address without fates:", got)
	}
}
