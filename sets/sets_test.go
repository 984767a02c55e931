package sets

import (
	"math/rand"
	"regexp"
	"slices"
	"strconv"
	"strings"
	"testing"

	"countersign/api"
	"countersign/filters"
	"countersign/tuples"
)

// The functions have the signatures of the chapter.
var (
	_ func([]api.Tuple) (Set, api.Errno)     = Of
	_ func(Set, api.Change) (Set, api.Errno) = Set.With
	_ func(Set) int                          = Set.Len
	_ func(Set, api.Tuple) bool              = Set.Has
	_ func(Set) []api.Tuple                  = Set.List
	_ func(Set, api.Goal) []api.Tuple        = Set.Goal
	_ func(Set, api.Subject) []api.Tuple     = Set.Subject
	_ func(Set, api.Filter) []api.Tuple      = Set.Match
	_ func(Set) []api.Goal                   = Set.Goals
	_ func(Set, Set) bool                    = Same
)

// build returns the tuple with six fields, be they names or not.
func build(f [6]string) api.Tuple {
	return api.Tuple{Goal: goal(f[0], f[1], f[2]), Subject: subject(f[3], f[4], f[5])}
}

func goal(space, id, rel string) api.Goal {
	return api.Goal{Object: api.Object{Space: space, ID: id}, Rel: rel}
}

func subject(space, id, rel string) api.Subject {
	return api.Subject{Object: api.Object{Space: space, ID: id}, Rel: rel}
}

// fieldsOf returns the six fields of a tuple, in their order.
func fieldsOf(t api.Tuple) [6]string {
	g, u := t.Goal, t.Subject
	return [6]string{g.Object.Space, g.Object.ID, g.Rel, u.Object.Space, u.Object.ID, u.Rel}
}

var tupleForm = regexp.MustCompile(`^([a-z0-9]{1,16}):([a-z0-9]{1,16})#([a-z0-9]{1,16})@([a-z0-9]{1,16}):([a-z0-9]{1,16})(?:#([a-z0-9]{1,16}))?\z`)

// of returns the valid tuples with some texts, by a regular expression.
func of(texts ...string) []api.Tuple {
	var l []api.Tuple
	for _, s := range texts {
		m := tupleForm.FindStringSubmatch(s)
		if m == nil {
			panic(s)
		}
		l = append(l, build([6]string(m[1:])))
	}
	return l
}

var nameForm = regexp.MustCompile(`^[a-z0-9]{1,16}\z`)

// valid says field by field whether a tuple is valid.
func valid(t api.Tuple) bool {
	for i, s := range fieldsOf(t) {
		if !nameForm.MatchString(s) && (i != 5 || s != "") {
			return false
		}
	}
	return true
}

// wrong has tuples of which one field is not valid, or all are not.
func wrong() []api.Tuple {
	out := []api.Tuple{{}, build([6]string{"", "", "", "u", "a", ""}), build([6]string{"a", "x", "r", "", "", ""})}
	for i := range 6 {
		for _, s := range []string{"", "A", "*", "a b", "a\x00", "\xff", "é", "a#", "0123456789abcdef0", strings.Repeat("a", 1<<16)} {
			f := [6]string{"a", "x", "r", "u", "a", "m"}
			f[i] = s
			if i != 5 || s != "" {
				out = append(out, build(f))
			}
		}
	}
	return out
}

// universe is in order; its fields begin with each other, and it is not in the order of its texts.
var universe = of("a:x#r@u:a", "a:x#r@u:a#m", "a:x#r@u:a0", "a:x#r@u0:a", "a:x#r0@u:a", "a:x0#r@u:a#m", "a:y#s@a:x#r", "a0:x#r@u:a", "b:a#m@b:a#m", "z:x#r@u:b")

// subset returns the tuples of the universe whose bits are set.
func subset(bits int) []api.Tuple {
	var l []api.Tuple
	for i, t := range universe {
		if bits>>i&1 == 1 {
			l = append(l, t)
		}
	}
	return l
}

// bitsOf returns the bits of the tuples of the universe for which a function holds.
func bitsOf(holds func(t api.Tuple) bool) int {
	bits := 0
	for i, t := range universe {
		if holds(t) {
			bits |= 1 << i
		}
	}
	return bits
}

// sorted returns the different tuples of a list, in order, field by field.
func sorted(l []api.Tuple) []api.Tuple {
	l = slices.Clone(l)
	slices.SortFunc(l, func(a, b api.Tuple) int {
		x, y := fieldsOf(a), fieldsOf(b)
		return slices.Compare(x[:], y[:])
	})
	return slices.Compact(l)
}

// must returns the set of some tuples.
func must(t *testing.T, l []api.Tuple) Set {
	t.Helper()
	s, e := Of(l)
	if e != api.OK {
		t.Fatalf("Of: %d", e)
	}
	return s
}

// with returns a set after a change, which has to be possible.
func with(t *testing.T, s Set, x api.Tuple, drop bool) Set {
	t.Helper()
	s, e := s.With(api.Change{Tuple: x, Drop: drop})
	if e != api.OK {
		t.Fatalf("With(%+v, %t): %d", x, drop, e)
	}
	return s
}

// want looks whether a list is another one, and has no room for more.
func want[T comparable](t *testing.T, what any, got, want []T) {
	t.Helper()
	if !slices.Equal(got, want) {
		t.Fatalf("%+v: %+v, not %+v", what, got, want)
	}
	if cap(got) != len(got) {
		t.Fatalf("%+v: room for %d, has %d", what, cap(got), len(got))
	}
}

// wantErrno looks whether a call has returned an error and the zero Set.
func wantErrno(t *testing.T, what any, s Set, e, want api.Errno) {
	t.Helper()
	if e != want || s.Len() != 0 || len(s.List()) != 0 || s.Depth() != 0 {
		t.Fatalf("%+v: %d and a set of %d, not %d", what, e, s.Len(), want)
	}
}

// goalsOf returns the goals of a list of tuples that is in order, each once.
func goalsOf(l []api.Tuple) []api.Goal {
	var out []api.Goal
	for _, t := range l {
		if !slices.Contains(out, t.Goal) {
			out = append(out, t.Goal)
		}
	}
	return out
}

// check looks whether a set has the tuples of a list that is in order.
func check(t *testing.T, s Set, l []api.Tuple) {
	t.Helper()
	if s.Len() != len(l) {
		t.Fatalf("Len: %d, not %d", s.Len(), len(l))
	}
	want(t, "List", s.List(), l)
	want(t, "Goals", s.Goals(), goalsOf(l))
	want(t, "Match", s.Match(api.Filter{}), l)
	for _, x := range l {
		if !s.Has(x) {
			t.Fatalf("Has(%+v) is false", x)
		}
	}
}

// asked has what is asked of all subsets, each with the bits of the tuples that are looked for.
type asked[T any] struct {
	value T
	bits  int
}

// askedGoals returns all goals over some fields: those of the universe, and such that no tuple has.
func askedGoals() []asked[api.Goal] {
	var out []asked[api.Goal]
	for _, space := range []string{"", "a", "a0", "b", "z", "0", "A", "a\x00"} {
		for _, id := range []string{"", "x", "x0", "y", "a", "zz", "x\x00"} {
			for _, rel := range []string{"", "r", "r0", "s", "m", "z", "R", "r\x00"} {
				g := goal(space, id, rel)
				out = append(out, asked[api.Goal]{g, bitsOf(func(t api.Tuple) bool { return t.Goal == g })})
			}
		}
	}
	return out
}

// askedSubjects returns all subjects over some fields: those of the universe, and such that no tuple has.
func askedSubjects() []asked[api.Subject] {
	var out []asked[api.Subject]
	for _, space := range []string{"", "u", "u0", "a", "b", "z", "U"} {
		for _, id := range []string{"", "a", "a0", "b", "x", "z", "*"} {
			for _, rel := range []string{"", "m", "r", "zz", "M", "\x00"} {
				u := subject(space, id, rel)
				out = append(out, asked[api.Subject]{u, bitsOf(func(t api.Tuple) bool { return t.Subject == u })})
			}
		}
	}
	return out
}

// takes says whether a filter is valid and takes a valid tuple.
func takes(f api.Filter, t api.Tuple) bool {
	have := fieldsOf(t)
	for i, s := range []string{f.Space, f.ID, f.Rel} {
		if s != "" && s != have[i] {
			return false
		}
	}
	if !f.Exact {
		return f.Subject == (api.Subject{})
	}
	return f.Subject == t.Subject
}

// whole returns the filter with all fields of a goal.
func whole(g api.Goal) api.Filter {
	return api.Filter{Space: g.Object.Space, ID: g.Object.ID, Rel: g.Rel}
}

// exactly returns the filter with a subject alone.
func exactly(u api.Subject) api.Filter { return api.Filter{Subject: u, Exact: true} }

// askedFilters returns all filters over some fields and subjects: some are not valid, and some take nothing.
func askedFilters() []asked[api.Filter] {
	var out []asked[api.Filter]
	subjects := []api.Subject{{}, subject("u", "a", ""), subject("u", "a", "m"), subject("u", "a0", ""), subject("a", "x", "r"), subject("u", "zz", "")}
	for _, space := range []string{"", "a", "a0", "z", "0", "zz", "a\x00"} {
		for _, id := range []string{"", "x", "x0", "y", "0", "X"} {
			for _, rel := range []string{"", "r", "r0", "s", "*"} {
				for _, u := range subjects {
					for _, exact := range []bool{false, true} {
						f := api.Filter{Space: space, ID: id, Rel: rel, Subject: u, Exact: exact}
						out = append(out, asked[api.Filter]{f, bitsOf(func(t api.Tuple) bool { return takes(f, t) })})
					}
				}
			}
		}
	}
	return out
}

// The tests themselves: the universe is in order, and not in that of its texts.
func TestUniverse(t *testing.T) {
	want(t, "universe", slices.Clip(universe), slices.Clip(sorted(universe)))
	var texts []string
	for _, x := range universe {
		if !valid(x) {
			t.Error(x)
		}
		texts = append(texts, tuples.Text(x))
	}
	if slices.IsSorted(texts) || len(askedFilters()) != 7*6*5*6*2 {
		t.Error(texts)
	}
}

// P6.1, P6.3, P6.4: all subsets of the universe; all goals, subjects and filters over some fields.
func TestAllSubsets(t *testing.T) {
	goals, subjects, fs := askedGoals(), askedSubjects(), askedFilters()
	bad := wrong()
	for bits := range 1 << len(universe) {
		l := subset(bits)
		s := must(t, l)
		check(t, s, l)
		for i, x := range universe {
			if s.Has(x) != (bits>>i&1 == 1) {
				t.Fatalf("%+v: Has(%+v)", l, x)
			}
		}
		for _, x := range bad {
			if s.Has(x) {
				t.Fatalf("%+v: Has(%+v)", l, x)
			}
		}
		for _, q := range goals {
			want(t, q.value, s.Goal(q.value), subset(q.bits&bits))
		}
		for _, q := range subjects {
			want(t, q.value, s.Subject(q.value), subset(q.bits&bits))
		}
		for i, q := range fs {
			if (i+bits)%5 == 0 || bits == 1<<len(universe)-1 {
				want(t, q.value, s.Match(q.value), subset(q.bits&bits))
			}
		}
	}
}

// P6.1, P6.6: the order of a list does not matter, nor how often a tuple is in it.
func TestOfOrders(t *testing.T) {
	r := rand.New(rand.NewSource(6))
	for bits := range 1 << len(universe) {
		l := subset(bits)
		down := slices.Clone(l)
		slices.Reverse(down)
		mixed := slices.Concat(l, down, l)
		r.Shuffle(len(mixed), func(i, j int) { mixed[i], mixed[j] = mixed[j], mixed[i] })
		for _, other := range [][]api.Tuple{down, mixed, slices.Concat(l, l)} {
			s := must(t, other)
			check(t, s, l)
			if !Same(s, must(t, l)) {
				t.Fatalf("%+v: not the same", other)
			}
		}
	}
}

// wantOf says what Of has to return for a list, tuple by tuple.
func wantOf(l []api.Tuple) ([]api.Tuple, api.Errno) {
	seen := map[api.Tuple]bool{}
	for _, t := range l {
		if !valid(t) {
			return nil, api.ErrName
		}
		seen[t] = true
		if len(seen) > 4096 {
			return nil, api.ErrLimit
		}
	}
	return sorted(l), api.OK
}

// checkOf looks at what Of returns for a list, and whether the list is as it was.
func checkOf(t *testing.T, what string, l []api.Tuple) {
	t.Helper()
	whole := slices.Concat(l, universe[:3])
	before := slices.Clone(whole)
	s, e := Of(whole[:len(l)])
	if !slices.Equal(whole, before) {
		t.Fatalf("%s: the list is modified", what)
	}
	list, wantE := wantOf(l)
	if wantE != api.OK {
		wantErrno(t, what, s, e, wantE)
		return
	}
	if e != api.OK {
		t.Fatalf("%s: %d", what, e)
	}
	clear(whole) // It is not kept.
	check(t, s, list)
}

// P6.1: all lists of up to four tuples over two that are valid, and two that are not.
func TestOfAll(t *testing.T) {
	some := []api.Tuple{universe[3], universe[0], {}, build([6]string{"a", "x", "r", "u", "a", "M"})}
	var walk func(l []api.Tuple)
	walk = func(l []api.Tuple) {
		checkOf(t, "short", l)
		for _, x := range some {
			if len(l) < 4 {
				walk(append(slices.Clip(l), x))
			}
		}
	}
	walk(nil)
}

// P6.1: each kind of tuples that are not valid, alone and behind others.
func TestOfNames(t *testing.T) {
	for _, x := range wrong() {
		for _, l := range [][]api.Tuple{{x}, {universe[0], x}, {x, universe[0]}, {universe[0], x, universe[0]}} {
			s, e := Of(l)
			wantErrno(t, x, s, e, api.ErrName)
		}
	}
	longest := strings.Repeat("z", 16)
	l := of(longest+":"+longest+"#"+longest+"@"+longest+":"+longest+"#"+longest, "0:0#0@0:0")
	check(t, must(t, l), []api.Tuple{l[1], l[0]})
}

// number returns a tuple for each n below a million; they ascend with n.
func number(n int) api.Tuple {
	s := strconv.Itoa(1000000 + n)
	return build([6]string{"d" + s[1:2], s[2:4], s[4:5], "u", s[5:], ""})
}

// numbers returns the tuples of the numbers from, from + step, and so on, below to.
func numbers(from, to, step int) []api.Tuple {
	var l []api.Tuple
	for n := from; n < to; n += step {
		l = append(l, number(n))
	}
	return l
}

// P6.1: around 4096 tuples, with others that are there already, and with one that is not valid at each side of the limit.
func TestOfLimit(t *testing.T) {
	l := numbers(0, 4099*37, 37)
	bad := []api.Tuple{{}}
	for _, x := range []struct {
		what string
		l    []api.Tuple
		want api.Errno
	}{
		{"4095", l[:4095], api.OK},
		{"4096", l[:4096], api.OK},
		{"4097", l[:4097], api.ErrLimit},
		{"4099", l, api.ErrLimit},
		{"4096 others", l[3:], api.OK},
		{"4096, and all again", slices.Concat(l[:4096], l[:4096]), api.OK},
		{"4096, the last one twice", slices.Concat(l[:4096], l[4095:4096]), api.OK},
		{"4096, the first one twice, and one more", slices.Concat(l[:4096], l[:1], l[4096:4097]), api.ErrLimit},
		{"one twice, and 4095 more", slices.Concat(l[:1], l[:4096]), api.OK},
		{"all twice, and one more", slices.Concat(l[:4096], l[:4096], l[4096:4097]), api.ErrLimit},
		{"wrong, 4097", slices.Concat(bad, l[:4097]), api.ErrName},
		{"4095, wrong, 2", slices.Concat(l[:4095], bad, l[4095:4097]), api.ErrName},
		{"4096, wrong, 1", slices.Concat(l[:4096], bad, l[4096:4097]), api.ErrName},
		{"4096, wrong", slices.Concat(l[:4096], bad), api.ErrName},
		{"4097, wrong", slices.Concat(l[:4097], bad), api.ErrLimit},
		{"4096, one again, wrong, 1", slices.Concat(l[:4096], l[7:8], bad, l[4096:4097]), api.ErrName},
		{"4096, one again, 1, wrong", slices.Concat(l[:4096], l[7:8], l[4096:4097], bad), api.ErrLimit},
	} {
		if _, e := wantOf(x.l); e != x.want {
			t.Fatalf("%s: %d", x.what, e)
		}
		checkOf(t, x.what, x.l)
		down := slices.Clone(x.l)
		slices.Reverse(down)
		checkOf(t, x.what+", the last one first", down)
	}
}

// wantWith says which tuples of the universe a set has after a change.
func wantWith(bits, i int, drop bool) int {
	if drop {
		return bits &^ (1 << i)
	}
	return bits | 1<<i
}

// P6.2, P6.6: each change of each subset of the universe; the set ahead of it stays, and with the opposite it is there again.
func TestAllChanges(t *testing.T) {
	for bits := range 1 << len(universe) {
		s := must(t, subset(bits))
		for i, x := range universe {
			for _, drop := range []bool{false, true} {
				next := with(t, s, x, drop)
				after := wantWith(bits, i, drop)
				check(t, next, subset(after))
				if Same(s, next) != (after == bits) {
					t.Fatalf("Same: %b, %b", bits, after)
				}
				if after != bits && !Same(with(t, next, x, !drop), s) {
					t.Fatalf("the opposite of %d, %t: %b", i, drop, bits)
				}
			}
		}
		check(t, s, subset(bits))
	}
}

// P6.2, P6.6: all lists of up to four changes of four tuples, from the zero Set on; each set is looked at again when all changes behind it have been made.
func TestListsOfChanges(t *testing.T) {
	var walk func(s Set, bits, left int)
	walk = func(s Set, bits, left int) {
		for i := range 4 {
			if left > 0 {
				walk(with(t, s, universe[i], false), wantWith(bits, i, false), left-1)
				walk(with(t, s, universe[i], true), wantWith(bits, i, true), left-1)
			}
		}
		check(t, s, subset(bits))
	}
	walk(Set{}, 0, 4)
}

// P6.2: changes of tuples that are not valid, put in or dropped, in sets of no, some and 4096 tuples.
func TestWithNames(t *testing.T) {
	full := must(t, numbers(0, 4096, 1))
	for _, s := range []Set{{}, must(t, nil), must(t, universe), full} {
		n := s.Len()
		for _, x := range wrong() {
			for _, drop := range []bool{false, true} {
				next, e := s.With(api.Change{Tuple: x, Drop: drop})
				wantErrno(t, x, next, e, api.ErrName)
			}
		}
		if s.Len() != n || len(s.List()) != n {
			t.Fatalf("a set of %d has %d", n, s.Len())
		}
	}
}

// P6.2, P6.6: a set of 4096 tuples has room for changes that make no difference, and for drops.
func TestWithLimit(t *testing.T) {
	l := numbers(0, 4097*11, 11)
	s := must(t, l[:4096])
	for _, x := range []api.Tuple{l[0], l[1], l[2048], l[4095]} {
		if next := with(t, s, x, false); !Same(next, s) || next.Len() != 4096 {
			t.Errorf("%+v: %d", x, next.Len())
		}
		less := with(t, s, x, true)
		if less.Len() != 4095 || less.Has(x) || Same(less, s) {
			t.Errorf("%+v: %d", x, less.Len())
		}
		check(t, with(t, less, l[4096], false), sorted(slices.Concat(without(l[:4096], x), l[4096:])))
		check(t, with(t, less, x, false), l[:4096])
	}
	for _, x := range []api.Tuple{l[4096], number(5), universe[0], universe[9]} {
		next, e := s.With(api.Change{Tuple: x})
		wantErrno(t, x, next, e, api.ErrLimit)
		if next := with(t, s, x, true); !Same(next, s) {
			t.Errorf("%+v: dropped", x)
		}
	}
	check(t, s, l[:4096])
}

// without returns a list without a tuple.
func without(l []api.Tuple, t api.Tuple) []api.Tuple {
	return slices.DeleteFunc(slices.Clone(l), func(x api.Tuple) bool { return x == t })
}

// P6.1 to P6.5: the zero Set, Of of no tuples, and sets that have become empty.
func TestEmpty(t *testing.T) {
	all := with(t, with(t, Set{}, universe[1], false), universe[0], false)
	emptied := with(t, with(t, all, universe[0], true), universe[1], true)
	sets := []Set{{}, must(t, nil), must(t, []api.Tuple{}), with(t, Set{}, universe[0], true), emptied}
	for i, s := range sets {
		check(t, s, nil)
		for _, x := range append(wrong(), universe...) {
			f := fieldsOf(x)
			got := slices.Concat(s.Goal(x.Goal), s.Subject(x.Subject), s.Match(api.Filter{Space: f[0]}), s.Match(api.Filter{Space: f[0], ID: f[1], Rel: f[2], Subject: x.Subject, Exact: true}))
			if s.Has(x) || len(got) != 0 {
				t.Fatalf("%d: %+v: %+v", i, x, got)
			}
		}
		for j, other := range sets {
			if !Same(s, other) || Same(s, all) || Same(all, s) {
				t.Errorf("Same: %d, %d", i, j)
			}
		}
		// What is empty can grow.
		check(t, with(t, with(t, s, universe[4], false), universe[2], false), []api.Tuple{universe[2], universe[4]})
		check(t, s, nil)
	}
}

// sixteen returns the filters that have some of the fields of a tuple, or its subject.
func sixteen(t api.Tuple) []api.Filter {
	f := fieldsOf(t)
	var out []api.Filter
	for _, space := range []string{"", f[0]} {
		for _, id := range []string{"", f[1]} {
			for _, rel := range []string{"", f[2]} {
				for _, exact := range []bool{false, true} {
					x := api.Filter{Space: space, ID: id, Rel: rel, Exact: exact}
					if exact {
						x.Subject = t.Subject
					}
					out = append(out, x)
				}
			}
		}
	}
	return out
}

// oracleMatch looks at each tuple of a list.
func oracleMatch(l []api.Tuple, f api.Filter) []api.Tuple {
	var out []api.Tuple
	for _, t := range l {
		if takes(f, t) {
			out = append(out, t)
		}
	}
	return out
}

// P6.4: each choice of fields in a set of 4096 tuples, of tuples that it has and of such that it has not.
func TestMatchOfMany(t *testing.T) {
	l := numbers(100000, 100000+4096*97, 97)
	s := must(t, l)
	check(t, s, l)
	asks := []api.Tuple{number(0), number(99999), number(100001), number(300000), number(999999), universe[0], universe[9], build([6]string{"d2", "5", "5", "u", "55", ""}), build([6]string{"d2", "50", "5", "u", "5", "m"})}
	for i := 0; i < len(l); i += 101 {
		asks = append(asks, l[i])
	}
	for _, x := range asks {
		for _, f := range sixteen(x) {
			want(t, f, s.Match(f), oracleMatch(l, f))
		}
		want(t, x.Goal, s.Goal(x.Goal), oracleMatch(l, whole(x.Goal)))
		want(t, x.Subject, s.Subject(x.Subject), oracleMatch(l, exactly(x.Subject)))
	}
}

// The span of a filter in a set is that in its list.
func TestSpan(t *testing.T) {
	fs := askedFilters()
	for bits := 0; bits < 1<<len(universe); bits += 11 {
		l := subset(bits)
		s := must(t, l)
		for _, q := range fs {
			from, to, e := filters.Span(l, q.value)
			if e != api.OK {
				continue
			}
			if gotFrom, gotTo := s.span(q.value); gotFrom != from || gotTo != to {
				t.Fatalf("%+v: %+v: %d, %d, not %d, %d", l, q.value, gotFrom, gotTo, from, to)
			}
		}
	}
}

// P6.4, P6.6: Match is filters.Select of the list, and none for a filter that is not valid.
func TestMatchSelects(t *testing.T) {
	s := must(t, universe)
	for _, q := range askedFilters() {
		l, e := filters.Select(universe, q.value)
		if (e == api.OK) != (filters.Check(q.value) == api.OK) {
			t.Fatal(q.value, e)
		}
		want(t, q.value, s.Match(q.value), slices.Clip(l))
	}
	long := strings.Repeat("a", 1<<20)
	for _, f := range []api.Filter{
		{Exact: true},
		{Subject: subject("u", "a", "")},
		{Subject: subject("", "", "m")},
		{Space: "A"},
		{Space: "a", ID: "*"},
		{Rel: "R"},
		{Space: "a", Exact: true, Subject: subject("u", "", "")},
		{Space: "a", ID: "x", Rel: "r", Exact: true, Subject: subject("u", "a", "M")},
		{Space: "a", ID: "x", Rel: "r", Subject: subject("u", "a", "")},
		{Space: long},
		{Exact: true, Subject: subject("u", long, "")},
	} {
		want(t, f, s.Match(f), nil)
	}
}

// P6.4: a goal or a subject that is not valid has no tuples, though a filter with the same fields may take some.
func TestGoalsAndSubjectsThatAreNone(t *testing.T) {
	s := must(t, universe)
	for _, g := range []api.Goal{{}, goal("a", "", ""), goal("a", "x", ""), goal("", "x", "r"), goal("", "", "r"), goal("a", "", "r"), goal("a", "x", "*")} {
		want(t, g, s.Goal(g), nil)
		if n := len(s.Match(whole(g))); (n == 0) != (g.Rel == "*") {
			t.Errorf("Match(%+v): %d", whole(g), n)
		}
	}
	for _, u := range []api.Subject{{}, subject("u", "", ""), subject("", "a", ""), subject("", "", "m"), subject("u", "", "m"), subject("u", "a", "m\x00"), subject("U", "a", "")} {
		want(t, u, s.Subject(u), nil)
	}
}

// P6.4: Goals has each goal once, in the order of goals, which is not that of their texts.
func TestGoals(t *testing.T) {
	l := of("a0:x#r@u:a", "b:x#r@u:c", "a:x#s@u:a", "b:x#r@u:a", "a:x#r@u:a", "a:y#r@u:a", "b:x#r@u:b", "a:x#r@u:a#m", "a:x0#r@u:a")
	goals := []api.Goal{goal("a", "x", "r"), goal("a", "x", "s"), goal("a", "x0", "r"), goal("a", "y", "r"), goal("a0", "x", "r"), goal("b", "x", "r")}
	want(t, "Goals", must(t, l).Goals(), goals)
	one := must(t, numbers(0, 100, 1))
	for n := range 100 {
		want(t, n, one.Goals(), []api.Goal{goal("d0", "00", "0")})
		one = with(t, one, number(n), true)
	}
	want(t, "none", one.Goals(), nil)
	var each []api.Goal
	for n := range 4096 {
		each = append(each, number(n*100).Goal)
	}
	want(t, "4096 goals", must(t, numbers(0, 4096*100, 100)).Goals(), slices.Clip(each))
}

// ways returns the set of a subset of the universe, made in different ways.
func ways(t *testing.T, bits int) []Set {
	t.Helper()
	l := subset(bits)
	out := []Set{must(t, l), must(t, slices.Concat(l, l))}
	one, down, less := Set{}, Set{}, must(t, universe)
	for i := range universe {
		j := len(universe) - 1 - i
		one = with(t, one, universe[i], bits>>i&1 == 0)
		down = with(t, down, universe[j], bits>>j&1 == 0)
		if bits>>i&1 == 0 {
			less = with(t, less, universe[i], true)
		}
	}
	back := with(t, with(t, one, universe[0], bits&1 == 1), universe[0], bits&1 == 0)
	return append(out, one, down, less, back)
}

// P6.5: all pairs of some subsets, each made in different ways.
func TestSame(t *testing.T) {
	var bits []int
	for b := 0; b < 1<<len(universe); b += 13 {
		bits = append(bits, b)
	}
	bits = append(bits, 1<<len(universe)-1)
	var all [][]Set
	for _, b := range bits {
		all = append(all, ways(t, b))
	}
	for i, a := range all {
		for j, b := range all {
			for k := range a {
				for m := range b {
					if Same(a[k], b[m]) != (i == j) {
						t.Fatalf("Same(%b, %b), made in the ways %d and %d", bits[i], bits[j], k, m)
					}
				}
			}
		}
	}
}

// P6.5: sets of 4096 tuples that differ in one of them, or in one of its fields, are not the same.
func TestSameOfMany(t *testing.T) {
	l := numbers(0, 4096*10, 10)
	s := must(t, l)
	down := slices.Clone(l)
	slices.Reverse(down)
	if !Same(s, must(t, down)) || !Same(s, s) {
		t.Error("the same tuples in another order")
	}
	for _, i := range []int{0, 1, 1000, 2047, 2048, 4094, 4095} {
		less := with(t, s, l[i], true)
		other := with(t, less, number(i*10+1), false)
		for _, x := range []Set{less, other} {
			if Same(s, x) || Same(x, s) || !Same(x, x) {
				t.Errorf("without %d", i)
			}
		}
		if Same(less, other) || !Same(s, with(t, less, l[i], false)) {
			t.Errorf("%d put in again", i)
		}
	}
	for i := range 6 {
		a := [6]string{"a", "x", "r", "u", "a", "m"}
		b := a
		b[i] = "q"
		if Same(must(t, []api.Tuple{build(a)}), must(t, []api.Tuple{build(b)})) {
			t.Errorf("the field %d", i)
		}
	}
}

// P6.6: some thousand changes, each of a set that is taken from those that exist already; all of them stay as they are.
func TestSetsStay(t *testing.T) {
	r := rand.New(rand.NewSource(66))
	all := numbers(0, 48*3, 3)
	sets, wants := []Set{{}}, [][]api.Tuple{nil}
	for i := range 3000 {
		from := len(sets) - 1
		if i%5 == 0 {
			from = r.Intn(len(sets))
		}
		x := all[r.Intn(len(all))]
		if r.Intn(5) > 1 {
			sets = append(sets, with(t, sets[from], x, false))
			wants = append(wants, sorted(append(slices.Clip(wants[from]), x)))
		} else {
			sets = append(sets, with(t, sets[from], x, true))
			wants = append(wants, without(wants[from], x))
		}
	}
	for i, s := range sets {
		check(t, s, wants[i])
		x := all[i%len(all)]
		want(t, x.Goal, s.Goal(x.Goal), oracleMatch(wants[i], whole(x.Goal)))
		want(t, x.Subject, s.Subject(x.Subject), oracleMatch(wants[i], exactly(x.Subject)))
	}
}

// eachOrder calls f with all orders of the numbers below n.
func eachOrder(n int, f func(order []int)) {
	var walk func(order []int)
	walk = func(order []int) {
		if len(order) == n {
			f(order)
		}
		for k := range n {
			if !slices.Contains(order, k) {
				walk(append(slices.Clip(order), k))
			}
		}
	}
	walk(nil)
}

// P6.6: all orders of changes of five different tuples, some of which make no difference.
func TestOrdersOfChanges(t *testing.T) {
	for drops := range 1 << 5 {
		start := must(t, subset(0b10110))
		end := subset(0b11111 &^ drops)
		eachOrder(5, func(order []int) {
			s := start
			for _, i := range order {
				s = with(t, s, universe[i], drops>>i&1 == 1)
			}
			check(t, s, end)
		})
	}
}

// P6.6: the order of changes matters where there is no room on the way, and nowhere else.
func TestOrdersWithoutRoom(t *testing.T) {
	l := numbers(0, 4098, 1)
	changes := []api.Change{{Tuple: l[4096]}, {Tuple: l[4097]}, {Tuple: l[0], Drop: true}, {Tuple: l[9], Drop: true}}
	for _, n := range []int{4094, 4095, 4096} {
		start := must(t, l[4096-n:4096]) // l[0] is in the set of 4096 alone
		end := without(slices.Concat(l[4096-n:4096], l[4096:]), l[0])
		end = without(end, l[9])
		eachOrder(4, func(order []int) {
			s, size, possible := start, n, true
			for _, i := range order {
				switch {
				case !changes[i].Drop:
					size++
				case i == 3 || n == 4096:
					size--
				}
				next, e := s.With(changes[i])
				if size > 4096 {
					wantErrno(t, order, next, e, api.ErrLimit)
					possible = false
					break
				}
				if e != api.OK || next.Len() != size {
					t.Fatalf("%d, %v: %d, %d, not %d", n, order, e, next.Len(), size)
				}
				s = next
			}
			if possible {
				want(t, order, s.List(), end)
			}
		})
	}
}

// P6.6: Goal is Match of the filter with all its fields, Subject that of the filter with the Subject alone.
func TestLookups(t *testing.T) {
	for bits := 0; bits < 1<<len(universe); bits += 7 {
		s := must(t, subset(bits))
		for _, q := range askedGoals() {
			if g := q.value; g.Object.Space != "" && g.Object.ID != "" && g.Rel != "" {
				want(t, g, s.Goal(g), s.Match(whole(g)))
			}
		}
		for _, q := range askedSubjects() {
			want(t, q.value, s.Subject(q.value), s.Match(exactly(q.value)))
		}
		if goals := s.Goals(); len(goals) > 0 {
			var l []api.Tuple
			for _, g := range goals {
				l = append(l, s.Goal(g)...)
			}
			want(t, "all goals", s.List(), slices.Clip(l))
		}
	}
}

// R4: what a call returns is new memory.
func TestResultsAreNew(t *testing.T) {
	s := must(t, universe)
	mark := number(7)
	for range 2 {
		for _, l := range [][]api.Tuple{s.List(), s.List(), s.Goal(universe[0].Goal), s.Subject(universe[0].Subject), s.Match(api.Filter{}), s.Match(api.Filter{Space: "a"})} {
			if len(l) < 2 {
				t.Fatal(l)
			}
			for i := range l {
				l[i] = mark
			}
			_ = append(l, mark)
		}
		goals := s.Goals()
		for i := range goals {
			goals[i] = mark.Goal
		}
		_ = append(goals, mark.Goal)
		check(t, s, slices.Clip(universe))
	}
}

// R1: tuples, goals and subjects of any strings, in sets of any size.
func TestAnyStrings(t *testing.T) {
	strange := []string{"", "\x00", "a", "a\x00", "\xff\xff", "é", "#", strings.Repeat("z", 1<<20)}
	r := rand.New(rand.NewSource(1))
	for _, s := range []Set{{}, must(t, universe), must(t, numbers(0, 4096, 1))} {
		before := s.List()
		for range 2000 {
			var f [6]string
			for i := range f {
				f[i] = strange[r.Intn(len(strange))]
			}
			x := build(f)
			if valid(x) {
				continue
			}
			n := len(s.Goal(x.Goal)) + len(s.Subject(x.Subject)) + len(s.Match(api.Filter{Space: f[0], ID: f[1], Rel: f[2], Subject: x.Subject, Exact: true}))
			if s.Has(x) || n != 0 {
				t.Fatalf("%.99q: %d", f, n)
			}
			next, e := s.With(api.Change{Tuple: x, Drop: r.Intn(2) == 0})
			wantErrno(t, "With", next, e, api.ErrName)
		}
		want(t, "List", s.List(), before)
	}
}

// The examples of the chapter.
func TestExamples(t *testing.T) {
	l := of("doc:a#viewer@user:x", "doc:a#viewer@group:g#member", "doc:b#viewer@user:x")
	s := must(t, l)
	check(t, s, []api.Tuple{l[1], l[0], l[2]})
	all, e := filters.Parse("doc:*#*")
	if n := len(s.Match(all)); n != 3 || e != api.OK {
		t.Error(n, e)
	}
	if n, m := len(s.Goal(goal("doc", "a", "viewer"))), len(s.Subject(subject("user", "x", ""))); n != 2 || m != 2 {
		t.Error(n, m)
	}
	less := with(t, s, l[2], true)
	want(t, "Goals", less.Goals(), []api.Goal{goal("doc", "a", "viewer")})
	if less.Len() != 2 {
		t.Error(less.Len())
	}
	next, e := s.With(api.Change{Tuple: build([6]string{"doc", "a", "", "user", "x", ""})})
	wantErrno(t, "a tuple without a relation", next, e, api.ErrName)
	if none, e := Of(nil); none.Len() != 0 || e != api.OK {
		t.Error(none.Len(), e)
	}
}
