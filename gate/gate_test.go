package gate_test

import (
	"fmt"
	"slices"
	"testing"

	"switchboard/api"
	"switchboard/duct"
	"switchboard/gate"
)

const (
	mostInt  = int(^uint(0) >> 1)
	leastInt = -mostInt - 1

	// The greatest Cap, written out, so that the tests do not hang on what they test against.
	most = 64
)

// letter answers the n-th of letters that are all unlike, and of which no field is zero.
func letter(n int) api.Letter {
	return api.Letter{Kind: api.LtAsk + int8(n%7), From: n + 1, Num: -n - 1, Sock: 2*n + 1, Text: fmt.Sprint("letter ", n), E: api.ErrArg}
}

// letters answers n of them, from the from-th on.
func letters(from, n int) []api.Letter {
	var l []api.Letter
	for i := range n {
		l = append(l, letter(from+i))
	}
	return l
}

// one answers an open duct, shut one a closed one, of that Cap and with n letters.
func one(size, n int) api.Duct {
	return api.Duct{Cap: size, In: letters(0, n)}
}

func shut(size, n int) api.Duct {
	return closed(one(size, n))
}

// held answers an open gate of n slots with some inside, as they are who entered: zero letters.
func held(n, inside int) api.Duct {
	return api.Duct{Cap: n, In: make([]api.Letter, inside)}
}

// mayBe are ducts that may be: empty, between, all but full and full ones, open and closed ones.
func mayBe() []api.Duct {
	var l []api.Duct
	for _, size := range []int{0, 1, 2, 3, 5, most - 1, most} {
		for n := range size + 1 {
			if n < 4 || n > size-4 {
				l = append(l, one(size, n), shut(size, n), held(size, n), closed(held(size, n)))
			}
		}
	}
	return append(l, api.Duct{In: []api.Letter{}}, api.Duct{Cap: 2, In: []api.Letter{}}, api.Duct{Cap: 2, In: []api.Letter{}, Closed: true})
}

// mayNotBe are ducts that may not be, open and closed ones.
func mayNotBe() []api.Duct {
	var l []api.Duct
	for _, size := range []int{leastInt, leastInt + 1, -most, -2, -1, most + 1, most + 2, 2 * most, mostInt - 1, mostInt} {
		for _, n := range []int{0, 1, 2, most, most + 1, 2*most - 1, 2 * most} {
			l = append(l, one(size, n), shut(size, n))
		}
	}
	for _, size := range []int{0, 1, 2, most - 1, most} {
		for _, over := range []int{1, 2, most} {
			l = append(l, one(size, size+over), shut(size, size+over))
		}
	}
	return l
}

func all() []api.Duct {
	return append(mayBe(), mayNotBe()...)
}

// same says, field by field, whether a and b are alike.
func same(a, b api.Duct) bool {
	return a.Cap == b.Cap && a.Closed == b.Closed && alike(a.In, b.In)
}

func alike(a, b []api.Letter) bool {
	if len(a) != len(b) {
		return false
	}
	for i := range a {
		if a[i] != b[i] {
			return false
		}
	}
	return true
}

// cloned answers d once more, in other memory.
func cloned(d api.Duct) api.Duct {
	d.In = slices.Clone(d.In)
	return d
}

// with answers d once more, with those letters instead.
func with(d api.Duct, l []api.Letter) api.Duct {
	d.In = slices.Clone(l)
	return d
}

func closed(d api.Duct) api.Duct {
	d = cloned(d)
	d.Closed = true
	return d
}

// tell tells d without all of its letters' fields.
func tell(d api.Duct) string {
	var from []int
	for _, m := range d.In {
		from = append(from, m.From)
	}
	return fmt.Sprintf("{Cap %d, closed %t, %d letters %v}", d.Cap, d.Closed, len(d.In), from)
}

// answer is what a call is to answer.
type answer struct {
	d api.Duct
	e api.Errno
}

// refused is an answer with nothing beside the error.
func refused(e api.Errno) answer {
	return answer{e: e}
}

// cutting, entering and leaving say once more what Cut, Enter and Leave answer.
func cutting(d api.Duct) answer {
	if d.Closed {
		return refused(api.ErrShut)
	}
	return answer{closed(d), api.OK}
}

func entering(d api.Duct) answer {
	if d.Closed {
		return refused(api.ErrShut)
	}
	if len(d.In) >= d.Cap {
		return refused(api.ErrRoom)
	}
	return answer{with(d, append(slices.Clone(d.In), api.Letter{})), api.OK}
}

func leaving(d api.Duct) answer {
	if len(d.In) == 0 {
		return refused(api.ErrEmpty)
	}
	return answer{with(d, d.In[1:]), api.OK}
}

// check holds what a call answered against what it is to answer.
func check(t *testing.T, name string, got api.Duct, e api.Errno, want answer) {
	t.Helper()
	if !same(got, want.d) || e != want.e {
		t.Errorf("%s: %s, %d, not %s, %d", name, tell(got), e, tell(want.d), want.e)
	}
}

// P6.1: a token is open, of Cap 0 and without letters.
func TestToken(t *testing.T) {
	token := gate.Token()
	if !same(token, api.Duct{}) || gate.IsCut(token) || gate.Inside(token) != 0 || gate.Free(token) != 0 || !duct.May(token) || duct.Ready(token) {
		t.Error(tell(token))
	}
	if _, _, e := duct.Take(token); e != api.ErrEmpty {
		t.Error("taken from what is not cut:", e)
	}
}

// P6.1: a token is cut once; nobody enters it, cut or not, and nobody is in it.
func TestCutToken(t *testing.T) {
	token := gate.Token()
	cut, e := gate.Cut(token)
	check(t, "cut", cut, e, answer{api.Duct{Closed: true}, api.OK})
	if !gate.IsCut(cut) || gate.IsCut(token) {
		t.Error("is it cut", gate.IsCut(cut), gate.IsCut(token))
	}
	twice, e := gate.Cut(cut)
	check(t, "cut twice", twice, e, refused(api.ErrShut))
	again, e := gate.Cut(token)
	check(t, "what is not cut once more", again, e, answer{api.Duct{Closed: true}, api.OK})
	in, e := gate.Enter(token)
	check(t, "entered", in, e, refused(api.ErrRoom))
	in, e = gate.Enter(cut)
	check(t, "entered, cut", in, e, refused(api.ErrShut))
	out, e := gate.Leave(token)
	check(t, "left", out, e, refused(api.ErrEmpty))
	out, e = gate.Leave(cut)
	check(t, "left, cut", out, e, refused(api.ErrEmpty))
}

// P6.1, and Words: whoever takes from a token that is cut goes on at once, for ever.
func TestCutTokenForEver(t *testing.T) {
	d, _ := gate.Cut(gate.Token())
	for i := range 3 * most {
		m, o, e := duct.Take(d)
		if !duct.Ready(d) || m != (api.Letter{}) || e != api.OK || !gate.IsCut(o) {
			t.Fatalf("taken the %dth time: %v, %s, %d", i, m, tell(o), e)
		}
		d = o
	}
}

// P6.1: any duct is cut, such as may not be too: closed, all else as it was; what is closed is not cut again.
func TestCut(t *testing.T) {
	for _, d := range all() {
		got, e := gate.Cut(d)
		check(t, "cut "+tell(d), got, e, cutting(d))
		if e == api.OK && !gate.IsCut(got) {
			t.Errorf("%s is not cut", tell(got))
		}
		twice, e := gate.Cut(closed(d))
		check(t, "closed and cut "+tell(d), twice, e, refused(api.ErrShut))
	}
}

// P6.1: the cases of Cut one by one.
func TestCutOfEach(t *testing.T) {
	for _, c := range []struct {
		name string
		d    api.Duct
		want answer
	}{
		{"a zero duct", api.Duct{}, answer{api.Duct{Closed: true}, api.OK}},
		{"nobody inside", one(2, 0), answer{shut(2, 0), api.OK}},
		{"somebody inside", one(2, 1), answer{shut(2, 1), api.OK}},
		{"full", one(2, 2), answer{shut(2, 2), api.OK}},
		{"MaxCap, full", one(64, 64), answer{shut(64, 64), api.OK}},
		{"closed, nobody inside", shut(2, 0), refused(api.ErrShut)},
		{"closed, somebody inside", shut(2, 1), refused(api.ErrShut)},
		{"closed, full", shut(64, 64), refused(api.ErrShut)},
		{"Cap -1", one(-1, 0), answer{shut(-1, 0), api.OK}},
		{"Cap -1, with a letter", one(-1, 1), answer{shut(-1, 1), api.OK}},
		{"Cap 65", one(65, 0), answer{shut(65, 0), api.OK}},
		{"Cap 65, full", one(65, 65), answer{shut(65, 65), api.OK}},
		{"the least Cap", one(leastInt, 3), answer{shut(leastInt, 3), api.OK}},
		{"the greatest Cap", one(mostInt, 3), answer{shut(mostInt, 3), api.OK}},
		{"more letters than Cap", one(1, 2), answer{shut(1, 2), api.OK}},
		{"more letters than Cap, closed", shut(1, 2), refused(api.ErrShut)},
		{"Cap -1, closed", shut(-1, 0), refused(api.ErrShut)},
		{"Cap 65, closed", shut(65, 1), refused(api.ErrShut)},
		{"the least Cap, closed", shut(leastInt, 0), refused(api.ErrShut)},
		{"the greatest Cap, closed", shut(mostInt, 1), refused(api.ErrShut)},
	} {
		got, e := gate.Cut(c.d)
		check(t, c.name, got, e, c.want)
	}
}

// P6.1: is each closed, of none, one and several ducts of any kind.
func TestIsCut(t *testing.T) {
	if !gate.IsCut() || !gate.IsCut([]api.Duct{}...) {
		t.Error("none")
	}
	for _, d := range all() {
		open := d
		open.Closed = false
		cut := closed(d)
		if gate.IsCut(open) || !gate.IsCut(cut) || !gate.IsCut(cut, cut) || gate.IsCut(open, open) {
			t.Errorf("%s alone, and twice", tell(d))
		}
		for _, other := range []api.Duct{shut(0, 0), shut(2, 1), shut(-1, 2), shut(mostInt, 0)} {
			if !gate.IsCut(cut, other, other) || !gate.IsCut(other, cut, other) || !gate.IsCut(other, other, cut) {
				t.Errorf("%s beside %s", tell(cut), tell(other))
			}
			if gate.IsCut(open, other, other) || gate.IsCut(other, open, other) || gate.IsCut(other, other, open) {
				t.Errorf("%s beside %s", tell(open), tell(other))
			}
		}
	}
	for n := range 5 {
		for bits := range 1 << n {
			var l []api.Duct
			want := true
			for i := range n {
				is := bits>>i&1 == 1
				l = append(l, api.Duct{Closed: is})
				want = want && is
			}
			if got := gate.IsCut(l...); got != want {
				t.Errorf("%d of %d: %t", bits, n, got)
			}
		}
	}
}

// P6.2: a gate has 1 to MaxCap slots, and nobody in it.
func TestGate(t *testing.T) {
	for _, c := range []struct {
		n    int
		want answer
	}{
		{1, answer{api.Duct{Cap: 1}, api.OK}}, {2, answer{api.Duct{Cap: 2}, api.OK}}, {8, answer{api.Duct{Cap: 8}, api.OK}}, {63, answer{api.Duct{Cap: 63}, api.OK}}, {64, answer{api.Duct{Cap: 64}, api.OK}},
		{0, refused(api.ErrArg)}, {-1, refused(api.ErrArg)}, {-2, refused(api.ErrArg)}, {-64, refused(api.ErrArg)}, {leastInt + 1, refused(api.ErrArg)}, {leastInt, refused(api.ErrArg)},
		{65, refused(api.ErrArg)}, {66, refused(api.ErrArg)}, {128, refused(api.ErrArg)}, {1 << 20, refused(api.ErrArg)}, {mostInt - 1, refused(api.ErrArg)}, {mostInt, refused(api.ErrArg)},
	} {
		got, e := gate.Gate(c.n)
		check(t, fmt.Sprint(c.n, " slots"), got, e, c.want)
	}
	for n := -200; n < 200; n++ {
		want := refused(api.ErrArg)
		if 1 <= n && n <= 64 {
			want = answer{api.Duct{Cap: n}, api.OK}
		}
		got, e := gate.Gate(n)
		check(t, fmt.Sprint(n, " slots"), got, e, want)
		if e == api.OK && (gate.IsCut(got) || gate.Inside(got) != 0 || gate.Free(got) != n || !duct.May(got)) {
			t.Errorf("%d slots: inside %d, free %d", n, gate.Inside(got), gate.Free(got))
		}
	}
}

// P6.2: any duct is entered, such as may not be too; the errors in their order.
func TestEnter(t *testing.T) {
	for _, d := range all() {
		got, e := gate.Enter(d)
		check(t, "entered "+tell(d), got, e, entering(d))
	}
}

// P6.2: the cases of Enter one by one.
func TestEnterOfEach(t *testing.T) {
	for _, c := range []struct {
		name string
		d    api.Duct
		want answer
	}{
		{"one slot, nobody inside", held(1, 0), answer{held(1, 1), api.OK}},
		{"one slot, full", held(1, 1), refused(api.ErrRoom)},
		{"two slots, nobody inside", held(2, 0), answer{held(2, 1), api.OK}},
		{"two slots, one free", held(2, 1), answer{held(2, 2), api.OK}},
		{"two slots, full", held(2, 2), refused(api.ErrRoom)},
		{"MaxCap, nobody inside", held(64, 0), answer{held(64, 1), api.OK}},
		{"MaxCap, one slot free", held(64, 63), answer{held(64, 64), api.OK}},
		{"MaxCap, full", held(64, 64), refused(api.ErrRoom)},
		{"behind other letters", one(4, 2), answer{api.Duct{Cap: 4, In: []api.Letter{letter(0), letter(1), {}}}, api.OK}},
		{"closed, nobody inside", closed(held(2, 0)), refused(api.ErrShut)},
		{"closed, somebody inside", closed(held(2, 1)), refused(api.ErrShut)},
		{"closed and full", closed(held(2, 2)), refused(api.ErrShut)},
		{"no slots", held(0, 0), refused(api.ErrRoom)},
		{"no slots, closed", closed(held(0, 0)), refused(api.ErrShut)},
		{"Cap 65, nobody inside", held(65, 0), answer{held(65, 1), api.OK}},
		{"Cap 65, one slot free", held(65, 64), answer{held(65, 65), api.OK}},
		{"Cap 65, full", held(65, 65), refused(api.ErrRoom)},
		{"Cap 65, closed", closed(held(65, 0)), refused(api.ErrShut)},
		{"the greatest Cap", held(mostInt, 2), answer{held(mostInt, 3), api.OK}},
		{"the greatest Cap, closed", closed(held(mostInt, 2)), refused(api.ErrShut)},
		{"Cap -1", held(-1, 0), refused(api.ErrRoom)},
		{"Cap -1, closed", closed(held(-1, 0)), refused(api.ErrShut)},
		{"Cap -1, with a letter", held(-1, 1), refused(api.ErrRoom)},
		{"the least Cap", held(leastInt, 0), refused(api.ErrRoom)},
		{"the least Cap, with letters", held(leastInt, 2), refused(api.ErrRoom)},
		{"the least Cap, closed", closed(held(leastInt, 1)), refused(api.ErrShut)},
		{"more letters than Cap", held(1, 2), refused(api.ErrRoom)},
		{"more letters than Cap, closed", closed(held(1, 2)), refused(api.ErrShut)},
	} {
		got, e := gate.Enter(c.d)
		check(t, c.name, got, e, c.want)
	}
}

// P6.2: whoever is inside leaves, of any duct, closed or not.
func TestLeave(t *testing.T) {
	for _, d := range all() {
		got, e := gate.Leave(d)
		check(t, "left "+tell(d), got, e, leaving(d))
	}
}

// P6.2: the cases of Leave one by one.
func TestLeaveOfEach(t *testing.T) {
	for _, c := range []struct {
		name string
		d    api.Duct
		want answer
	}{
		{"one slot, nobody inside", one(1, 0), refused(api.ErrEmpty)},
		{"one slot, full", one(1, 1), answer{one(1, 0), api.OK}},
		{"two slots, one inside", one(2, 1), answer{one(2, 0), api.OK}},
		{"two slots, full", one(2, 2), answer{with(one(2, 0), letters(1, 1)), api.OK}},
		{"MaxCap, full", one(64, 64), answer{with(one(64, 0), letters(1, 63)), api.OK}},
		{"MaxCap, nobody inside", one(64, 0), refused(api.ErrEmpty)},
		{"who entered alike", held(3, 3), answer{held(3, 2), api.OK}},
		{"closed, nobody inside", shut(2, 0), refused(api.ErrEmpty)},
		{"closed, one inside", shut(2, 1), answer{shut(2, 0), api.OK}},
		{"closed, full", shut(3, 3), answer{with(shut(3, 0), letters(1, 2)), api.OK}},
		{"letters in the room behind In", api.Duct{Cap: 3, In: letters(0, 3)[:0]}, refused(api.ErrEmpty)},
		{"no slots", one(0, 0), refused(api.ErrEmpty)},
		{"no slots, with letters", one(0, 2), answer{with(one(0, 0), letters(1, 1)), api.OK}},
		{"more letters than Cap", one(1, 3), answer{with(one(1, 0), letters(1, 2)), api.OK}},
		{"more letters than Cap, closed", shut(1, 3), answer{with(shut(1, 0), letters(1, 2)), api.OK}},
		{"Cap -1", one(-1, 0), refused(api.ErrEmpty)},
		{"Cap -1, with a letter", one(-1, 1), answer{one(-1, 0), api.OK}},
		{"Cap -1, closed", shut(-1, 0), refused(api.ErrEmpty)},
		{"Cap 65, nobody inside", one(65, 0), refused(api.ErrEmpty)},
		{"Cap 65, full", one(65, 65), answer{with(one(65, 0), letters(1, 64)), api.OK}},
		{"the least Cap, with a letter, closed", shut(leastInt, 1), answer{shut(leastInt, 0), api.OK}},
		{"the greatest Cap, with letters", one(mostInt, 2), answer{with(one(mostInt, 0), letters(1, 1)), api.OK}},
	} {
		got, e := gate.Leave(c.d)
		check(t, c.name, got, e, c.want)
	}
}

// P6.2: how many are inside of none, one and several gates, open and closed ones, and of any ducts.
func TestInside(t *testing.T) {
	if gate.Inside() != 0 || gate.Inside([]api.Duct{}...) != 0 {
		t.Error("none")
	}
	var before []api.Duct
	sum := 0
	for _, d := range all() {
		if got := gate.Inside(d); got != len(d.In) {
			t.Errorf("%s: %d", tell(d), got)
		}
		if got := gate.Inside(d, d); got != 2*len(d.In) {
			t.Errorf("%s, twice: %d", tell(d), got)
		}
		before = append(before, d)
		sum += len(d.In)
		if got := gate.Inside(before...); got != sum {
			t.Errorf("%d ducts: %d, not %d", len(before), got, sum)
		}
	}
	for _, c := range []struct {
		l    []api.Duct
		want int
	}{
		{[]api.Duct{{}}, 0}, {[]api.Duct{held(2, 1), held(3, 3)}, 4}, {[]api.Duct{held(1, 0), held(1, 1), held(2, 0)}, 1}, {[]api.Duct{held(1, 1), closed(held(2, 2)), gate.Token()}, 3},
		{[]api.Duct{held(64, 64), held(64, 64)}, 128}, {[]api.Duct{held(-1, 2), held(0, 1), closed(held(leastInt, 3)), held(mostInt, 4)}, 10}, {[]api.Duct{{Cap: 3, In: letters(0, 3)[:1]}}, 1},
	} {
		if got := gate.Inside(c.l...); got != c.want {
			t.Errorf("%d ducts: %d, not %d", len(c.l), got, c.want)
		}
	}
}

// P6.2: how many may enter, of gates and of any ducts; of a closed one nobody.
func TestFree(t *testing.T) {
	for _, c := range []struct{ size, n, want int }{
		{0, 0, 0}, {1, 0, 1}, {1, 1, 0}, {2, 0, 2}, {2, 1, 1}, {2, 2, 0}, {64, 0, 64}, {64, 1, 63}, {64, 63, 1}, {64, 64, 0},

		// More letters than Cap, a Cap below 0, one above MaxCap.
		{0, 1, 0}, {1, 2, 0}, {64, 65, 0}, {64, 128, 0}, {-1, 0, 0}, {-1, 1, 0}, {leastInt, 0, 0}, {leastInt, 1, 0}, {leastInt, 64, 0}, {leastInt + 1, 2, 0}, {65, 0, 65}, {65, 64, 1}, {65, 65, 0}, {65, 66, 0}, {mostInt, 0, mostInt}, {mostInt, 1, mostInt - 1},
	} {
		if got := gate.Free(one(c.size, c.n)); got != c.want {
			t.Errorf("%s: %d, not %d", tell(one(c.size, c.n)), got, c.want)
		}
		if got := gate.Free(shut(c.size, c.n)); got != 0 {
			t.Errorf("%s: %d", tell(shut(c.size, c.n)), got)
		}
	}
	// Whoever may enter does, and behind them nobody else.
	for _, d := range all() {
		free := gate.Free(d)
		if free > 3*most {
			continue
		}
		in := d
		for i := range free {
			o, e := gate.Enter(in)
			if e != api.OK || gate.Free(o) != free-i-1 || gate.Inside(o) != len(d.In)+i+1 {
				t.Fatalf("%s, the %dth of %d: %s, %d", tell(d), i, free, tell(o), e)
			}
			in = o
		}
		if o, e := gate.Enter(in); e == api.OK {
			t.Errorf("%s: entered by more than %d: %s", tell(d), free, tell(o))
		}
	}
}

// P6.2: who entered first leaves first, whoever was put in ahead, and also when the gate is closed.
func TestFirstLeavesFirst(t *testing.T) {
	for _, cut := range []bool{false, true} {
		d := one(6, 3)
		for range 2 {
			o, e := gate.Enter(d)
			if e != api.OK {
				t.Fatal(e)
			}
			d = o
		}
		d, e := duct.Put(d, letter(9))
		if e != api.OK {
			t.Fatal(e)
		}
		if cut {
			d, _ = gate.Cut(d)
		}
		queue := []api.Letter{letter(0), letter(1), letter(2), {}, {}, letter(9)}
		for len(queue) > 0 {
			if !alike(d.In, queue) || d.Closed != cut {
				t.Fatalf("%s, not %d letters", tell(d), len(queue))
			}
			queue = queue[1:]
			o, e := gate.Leave(d)
			check(t, "left", o, e, answer{api.Duct{Cap: 6, In: queue, Closed: cut}, api.OK})
			d = o
		}
		o, e := gate.Leave(d)
		check(t, "left by all", o, e, refused(api.ErrEmpty))
	}
}

// The chapter's examples: a gate of 2.
func TestExamples(t *testing.T) {
	d, _ := gate.Gate(2)
	d, _ = gate.Enter(d)
	d, _ = gate.Enter(d)
	if gate.Inside(d) != 2 || gate.Free(d) != 0 {
		t.Error(gate.Inside(d), gate.Free(d))
	}
	third, e := gate.Enter(d)
	check(t, "a third one", third, e, refused(api.ErrRoom))
	d, e = gate.Leave(d)
	if e != api.OK || gate.Inside(d) != 1 || gate.Free(d) != 1 {
		t.Error(e, gate.Inside(d), gate.Free(d))
	}
}

// P6.3: whoever enters and leaves, in whatever order: inside and free together are the slots, as long as the gate is not cut, and never are more inside.
func TestInsideAndFree(t *testing.T) {
	const steps = 8
	many := 1
	for range steps {
		many *= 3
	}
	for _, slots := range []int{1, 2, 3, 4, most} {
		for script := range many {
			follow(t, slots, script, steps)
		}
	}
}

// follow does what the digits of script say: an entering, a leaving, a cutting; beside it goes a count of who is inside.
func follow(t *testing.T, slots, script, steps int) {
	t.Helper()
	d, e := gate.Gate(slots)
	if e != api.OK {
		t.Fatal(slots, e)
	}
	inside, cut := 0, false
	for code := script; steps > 0; steps-- {
		var o api.Duct
		want := api.OK
		switch code % 3 {
		case 0:
			o, e = gate.Enter(d)
			switch {
			case cut:
				want = api.ErrShut
			case inside == slots:
				want = api.ErrRoom
			default:
				inside++
			}
		case 1:
			o, e = gate.Leave(d)
			if inside == 0 {
				want = api.ErrEmpty
			} else {
				inside--
			}
		case 2:
			o, e = gate.Cut(d)
			if cut {
				want = api.ErrShut
			}
			cut = true
		}
		if e != want || e != api.OK && !same(o, api.Duct{}) {
			t.Fatalf("%d slots, %d: %s, %d, not %d", slots, script, tell(o), e, want)
		}
		if e == api.OK {
			d = o
		}
		holds(t, d, slots, inside, cut)
		code /= 3
	}
}

// holds checks what is told of a gate against its slots, who is inside and whether it was cut.
func holds(t *testing.T, d api.Duct, slots, inside int, cut bool) {
	t.Helper()
	free := slots - inside
	if cut {
		free = 0
	}
	if gate.Inside(d) != inside || gate.Inside(d) > slots || gate.Free(d) != free || gate.IsCut(d) != cut || !alike(d.In, make([]api.Letter, inside)) || d.Cap != slots || !duct.May(d) {
		t.Fatalf("%d slots, %d inside, cut %t: %s, inside %d, free %d", slots, inside, cut, tell(d), gate.Inside(d), gate.Free(d))
	}
}

// P6.3: a gate of each size is filled and left again, and filled once more.
func TestFilledAndLeft(t *testing.T) {
	for slots := 1; slots <= most; slots++ {
		d, _ := gate.Gate(slots)
		for range 2 {
			for inside := range slots {
				holds(t, d, slots, inside, false)
				o, e := gate.Enter(d)
				if e != api.OK {
					t.Fatalf("%d slots, %d inside: %d", slots, inside, e)
				}
				d = o
			}
			holds(t, d, slots, slots, false)
			full, e := gate.Enter(d)
			check(t, "full", full, e, refused(api.ErrRoom))
			for inside := slots; inside > 0; inside-- {
				holds(t, d, slots, inside, false)
				o, e := gate.Leave(d)
				if e != api.OK {
					t.Fatalf("%d slots, %d inside: %d", slots, inside, e)
				}
				d = o
			}
			holds(t, d, slots, 0, false)
			empty, e := gate.Leave(d)
			check(t, "empty", empty, e, refused(api.ErrEmpty))
		}
	}
}

// makers are the calls that answer a duct made of d.
func makers() map[string]func(d api.Duct) (api.Duct, api.Errno) {
	return map[string]func(d api.Duct) (api.Duct, api.Errno){"cut": gate.Cut, "enter": gate.Enter, "leave": gate.Leave}
}

// roomy answers l with room behind it, and all of what it stands in.
func roomy(l []api.Letter) (in, whole []api.Letter) {
	whole = append(slices.Clone(l), letters(900, 3)...)
	return whole[:len(l)], whole
}

// spoil writes over all of l, the room behind it, and what is appended to it.
func spoil(l []api.Letter) {
	for _, all := range [][]api.Letter{l[:cap(l)], append(l, letter(777))} {
		for i := range all {
			all[i] = letter(999)
		}
	}
}

// P6.1, P6.2, and R4: what comes of a duct is in memory of its own; what was handed in, the room behind it included, stays as it is.
func TestOwnMemory(t *testing.T) {
	for _, d := range all() {
		for name, of := range makers() {
			handed := d
			in, whole := roomy(d.In)
			handed.In = in
			untouched := append(slices.Clone(d.In), letters(900, 3)...)
			first, _ := of(handed)
			second, _ := of(handed)
			want := cloned(second)
			if !same(first, want) {
				t.Errorf("%s of %s: %s, then %s", name, tell(d), tell(first), tell(second))
			}
			spoil(first.In)
			third, _ := of(handed)
			if !same(second, want) || !same(third, want) || !alike(whole, untouched) {
				t.Fatalf("%s of %s: another answer became %s, what was handed in %s", name, tell(d), tell(second), tell(handed))
			}
			spoil(whole)
			if !same(second, want) {
				t.Errorf("%s of %s: what was handed in is kept: %s", name, tell(d), tell(second))
			}
		}
		in, whole := roomy(d.In)
		asked := with(d, nil)
		asked.In = in
		gate.IsCut(asked, asked)
		gate.Inside(asked, asked)
		gate.Free(asked)
		if !alike(whole, append(slices.Clone(d.In), letters(900, 3)...)) {
			t.Fatalf("asked of %s: it is changed", tell(d))
		}
	}
}

// R4: two tokens, or two gates, are not the same memory.
func TestTwoNew(t *testing.T) {
	first, second := gate.Token(), gate.Token()
	first, _ = gate.Cut(first)
	if !gate.IsCut(first) || gate.IsCut(second) || gate.IsCut(gate.Token()) {
		t.Error("one token is cut, the others are not")
	}
	spoil(first.In)
	if !same(second, api.Duct{}) || !same(gate.Token(), api.Duct{}) {
		t.Error("tokens", tell(second), tell(gate.Token()))
	}
	a, _ := gate.Gate(2)
	b, _ := gate.Gate(2)
	a.In = append(a.In, letter(1))
	spoil(a.In)
	b, _ = gate.Enter(b)
	if !same(b, held(2, 1)) {
		t.Error("gates", tell(b))
	}
}

// P6.2: two who enter one gate do not meet, nor does one who leaves it.
func TestTwoOfOne(t *testing.T) {
	base, _ := gate.Gate(3)
	base, _ = gate.Enter(base)
	base, _ = gate.Enter(base)
	one, _ := gate.Enter(base)
	other, _ := gate.Enter(base)
	left, _ := gate.Leave(base)
	ended, _ := gate.Cut(base)
	one.In[2] = letter(5)
	left.In[0] = letter(6)
	ended.In[0] = letter(7)
	if !same(base, held(3, 2)) || !same(other, held(3, 3)) || gate.Inside(base, one, other, left, ended) != 11 {
		t.Error(tell(base), tell(one), tell(other), tell(left), tell(ended))
	}
}
