package tuples

import (
	"regexp"
	"slices"
	"strconv"
	"strings"
	"testing"

	"countersign/api"
	"countersign/names"
)

// tuple returns the tuple with six fields, be they names or not.
func tuple(f [6]string) api.Tuple {
	return api.Tuple{
		Goal:    api.Goal{Object: api.Object{Space: f[0], ID: f[1]}, Rel: f[2]},
		Subject: api.Subject{Object: api.Object{Space: f[3], ID: f[4]}, Rel: f[5]},
	}
}

var tupleForm = regexp.MustCompile(`^([^:#@]*):([^:#@]*)#([^:#@]*)@([^:#@]*):([^:#@]*)(?:#([^:#@]+))?\z`)

// of returns the tuples with some texts, by a regular expression and not by Parse; their fields need not be names.
func of(texts ...string) []api.Tuple {
	var l []api.Tuple
	for _, s := range texts {
		m := tupleForm.FindStringSubmatch(s)
		if m == nil {
			panic(s)
		}
		l = append(l, tuple([6]string(m[1:])))
	}
	return l
}

// number returns a tuple for each n below a million; they ascend with n.
func number(n int) api.Tuple {
	s := strconv.Itoa(1000000 + n)
	return tuple([6]string{"doc", s[1:3], s[3:5], "user", s[5:], ""})
}

// numbers returns a sorted list of n tuples, the first of which has a number.
func numbers(from, n int) []api.Tuple {
	var l []api.Tuple
	for i := range n {
		l = append(l, number(from+i))
	}
	return l
}

// universe is a sorted list of tuples of which each but the first differs from the one before it in another field; some are not valid.
var universe = of(":#@:", "a:x#r@u:a", "a:x#r@u:a#m", "a:x#r@u:b", "a:x#r@v:a", "a:x#s@u:a", "a:y#r@u:a", "b:x#r@u:a", "\xff:#@:")

// subset returns those tuples of the universe whose bits are set.
func subset(bits int) []api.Tuple {
	var l []api.Tuple
	for i, t := range universe {
		if bits>>i&1 == 1 {
			l = append(l, t)
		}
	}
	return l
}

// eachList calls f with all lists of indices below base that have up to most elements.
func eachList(base, most int, f func(places []int)) {
	var walk func(l []int)
	walk = func(l []int) {
		f(l)
		for i := range base {
			if len(l) < most {
				walk(append(slices.Clone(l), i))
			}
		}
	}
	walk(nil)
}

// ofPlaces returns the tuples of the universe at some places.
func ofPlaces(places []int) []api.Tuple {
	var l []api.Tuple
	for _, i := range places {
		l = append(l, universe[i])
	}
	return l
}

func ascends(places []int) bool {
	for i := range places {
		if i > 0 && places[i-1] >= places[i] {
			return false
		}
	}
	return true
}

func sign(n int) int { return min(max(n, -1), 1) }

// guarded returns a copy of a list with spare capacity, and a function that tells whether the copy and its spare capacity are as they were.
func guarded(l []api.Tuple) ([]api.Tuple, func() bool) {
	mark := of("spare:x#r@u:a")[0]
	whole := slices.Concat(l, []api.Tuple{mark, mark, mark})
	before := slices.Clone(whole)
	return whole[:len(l)], func() bool { return slices.Equal(whole, before) }
}

// checkResult looks at the tuples of a result, and, by overwriting them, at its memory.
func checkResult(t *testing.T, what string, got, want []api.Tuple, intact func() bool) {
	t.Helper()
	if !slices.Equal(got, want) {
		t.Fatalf("%s = %v, not %v", what, got, want)
	}
	if cap(got) != len(got) {
		t.Fatalf("%s has spare capacity: %d of %d", what, cap(got), len(got))
	}
	if !intact() {
		t.Fatalf("%s modifies an argument", what)
	}
	for i := range got {
		got[i] = api.Tuple{}
		got[i].Goal.Rel = "overwritten"
	}
	if !intact() {
		t.Fatalf("%s shares memory with an argument", what)
	}
}

var validForm = regexp.MustCompile(`^[a-z0-9]{1,16}:[a-z0-9]{1,16}#[a-z0-9]{1,16}@[a-z0-9]{1,16}:[a-z0-9]{1,16}(#[a-z0-9]{1,16})?\z`)

// P2.1: all tuples over some fields.
func TestCheckFields(t *testing.T) {
	fields := []string{"", "a", "0123456789abcdef", "0123456789abcdef0", "A"}
	var f [6]string
	var walk func(i int)
	walk = func(i int) {
		if i < len(f) {
			for _, f[i] = range fields {
				walk(i + 1)
			}
			return
		}
		want := api.ErrName
		if validForm.MatchString(Text(tuple(f))) {
			want = api.OK
		}
		if got := Check(tuple(f)); got != want {
			t.Fatalf("Check(%q) = %d, not %d", f, got, want)
		}
	}
	walk(0)
}

// P2.1: each field in turn is not a name.
func TestCheckNoNames(t *testing.T) {
	if Check(api.Tuple{}) != api.ErrName {
		t.Error("the zero tuple is valid")
	}
	for i := range 6 {
		for _, bad := range []string{" ", "a b", "a\n", "a-b", "a:b", "#", "@", "a@b", "\x00", "\xff", "é", strings.Repeat("a", 1<<20)} {
			f := [6]string{"doc", "a", "viewer", "group", "eng", "member"}
			if Check(tuple(f)) != api.OK {
				t.Fatal("a valid tuple")
			}
			f[i] = bad
			if got := Check(tuple(f)); got != api.ErrName {
				t.Errorf("field %d as %.20q: %d", i, bad, got)
			}
		}
	}
}

// P2.1: the list of all tuples over some fields ascends strictly; its places say what the order of two of them has to be.
func TestCompare(t *testing.T) {
	for _, fields := range [][]string{{"", "a", "a0"}, {"A\x00", "z", "\xff"}} {
		l := []api.Tuple{}
		n := len(fields)
		for i := range n * n * n * n * n * n {
			var f [6]string
			for k := 5; k >= 0; k-- {
				f[k] = fields[i%n]
				i /= n
			}
			l = append(l, tuple(f))
		}
		for i, a := range l {
			for j, b := range l {
				if got := Compare(a, b); got != sign(i-j) {
					t.Fatalf("Compare(%q, %q) = %d, not %d", a, b, got, sign(i-j))
				}
			}
		}
	}
}

// P2.1: the order is not that of the texts.
func TestOrderOfTexts(t *testing.T) {
	l := of("a:z#r@u:a", "a0:a#r@u:a")
	if Compare(l[0], l[1]) != -1 || strings.Compare(Text(l[0]), Text(l[1])) != 1 {
		t.Error("a:z and a0:a")
	}
	l = of("d:a#r@u:z#m", "d:a#r@u0:a")
	if Compare(l[0], l[1]) != -1 || strings.Compare(Text(l[0]), Text(l[1])) != 1 {
		t.Error("u:z and u0:a")
	}
}

// P2.2
func TestText(t *testing.T) {
	for _, x := range []struct {
		f    [6]string
		text string
	}{
		{[6]string{"doc", "readme", "viewer", "user", "anna", ""}, "doc:readme#viewer@user:anna"},
		{[6]string{"doc", "a", "viewer", "group", "eng", "member"}, "doc:a#viewer@group:eng#member"},
		{[6]string{}, ":#@:"},
		{[6]string{"", "", "", "", "", "r"}, ":#@:#r"},
		{[6]string{"", "", "r", "", "", ""}, ":#r@:"},
		{[6]string{"A b", "#", "c:d", "@", "\xff", "é@"}, "A b:##c:d@@:\xff#é@"},
	} {
		if got := Text(tuple(x.f)); got != x.text {
			t.Errorf("Text(%q) = %q, not %q", x.f, got, x.text)
		}
	}
	long := strings.Repeat("a:#@", 1000)
	if Text(tuple([6]string{long, long, long, long, long, long})) != long+":"+long+"#"+long+"@"+long+":"+long+"#"+long {
		t.Error("the text of a long tuple is cut")
	}
}

// parseError says what Parse has to return for a text.
func parseError(s string) api.Errno {
	parts := strings.Split(s, "@")
	if len(parts) != 2 {
		return api.ErrForm
	}
	if _, e := names.ParseGoal(parts[0]); e != api.OK {
		return e
	}
	_, e := names.ParseSubject(parts[1])
	return e
}

func checkParse(t *testing.T, s string, want api.Errno) {
	t.Helper()
	got, e := Parse(s)
	if e != want || (e == api.OK) != validForm.MatchString(s) {
		t.Fatalf("Parse(%q): %d, not %d", s, e, want)
	}
	if e == api.OK && (Check(got) != api.OK || Text(got) != s || got != of(s)[0]) || e != api.OK && got != (api.Tuple{}) {
		t.Fatalf("Parse(%q) = %q, %d", s, got, e)
	}
}

// P2.2
func TestParse(t *testing.T) {
	const name, form = api.ErrName, api.ErrForm
	for _, x := range []struct {
		s    string
		want api.Errno
	}{
		{"doc:readme#viewer@user:anna", api.OK},
		{"doc:a#viewer@group:eng#member", api.OK},
		{"0123456789abcdef:0123456789abcdef#0123456789abcdef@0123456789abcdef:0123456789abcdef#0123456789abcdef", api.OK},
		{"", form},
		{"@", form},
		{"@@", form},
		{"doc:a#viewer", form},
		{"Doc:a#viewer", form},
		{"doc:a#viewer@", form},
		{"@user:b", form},
		{"doc:a@user:b", form},
		{"doc:a#v@@u:b", form},
		{"doc:a#v@u:b@", form},
		{"@doc:a#v@u:b", form},
		{"doc:a#v@u:b@u:c", form},
		{"doc:a#v@U:b@", form},
		{"DOC:a#v@u:b@u:b", form},
		{"doc:a#v@U:b", name},
		{"doc:a#V@u:b", name},
		{"Doc:a#v@u:b", name},
		{"doc:A#v@u:b", name},
		{"doc:a#v@u:B", name},
		{"doc:a#v@u:b#C", name},
		{"doc:a#v@u:b#", name},
		{"doc:a#@u:b", name},
		{"doc:a#V@u", name},
		{"doc:a#@u:b#c#d", name},
		{"doc:a@U:b", form},
		{"doc:a@u:b#", form},
		{"doc:a#v@u", form},
		{"doc:a#v@u:b:c", form},
		{"doc:a#v@u:b#c#d", form},
		{"doc:a#v@u#c:b", form},
		{"doc#v:a@u:b", form},
		{"doc:a#v#w@u:b", form},
		{":#@:", name},
		{":#@", name},
		{"#@:", form},
		{" doc:a#v@u:b", name},
		{"doc:a#v @u:b", name},
		{"doc:a#v@ u:b", name},
		{"doc:a#v@u:b ", name},
		{"doc:a#v@u:b\n", name},
		{"doc:a#v@u:\xff", name},
		{"doc:0123456789abcdef0#v@u:b", name},
		{"doc:a#v@u:0123456789abcdef0", name},
		{strings.Repeat("@", 100000), form},
		{strings.Repeat("a", 100000) + ":b#c@u:a", name},
	} {
		checkParse(t, x.s, x.want)
	}
}

// P2.2: all texts of up to 6 bytes over the signs, and all pairs of some parts.
func TestParseAll(t *testing.T) {
	eachList(5, 6, func(places []int) {
		var b []byte
		for _, i := range places {
			b = append(b, "aB:#@"[i])
		}
		checkParse(t, string(b), parseError(string(b)))
	})
	parts := []string{"", ":", "#", "a", "a:", ":a", "a:b", "A:b", "a:B", "a:b#", "a:b#c", "a:b#C", "A:b#c", "a:B#c", "a:b:c", "a:b:c#d", "a:b#c#d", "a#b:c", "a#b", ":#", "a:b@c"}
	for _, a := range parts {
		for _, b := range parts {
			checkParse(t, a+b, parseError(a+b))
			checkParse(t, a+"@"+b, parseError(a+"@"+b))
		}
	}
}

// P2.3: all lists of up to 5 out of 5 tuples.
func TestSortedAndIs(t *testing.T) {
	eachList(5, 5, func(places []int) {
		l, intact := guarded(ofPlaces(places))
		bits := 0
		for _, i := range places {
			bits |= 1 << i
		}
		if got := Is(l); got != ascends(places) {
			t.Fatalf("Is(%v) = %t", l, got)
		}
		checkResult(t, "Sorted", Sorted(l), subset(bits), intact)
	})
	if !Is(nil) || !Is([]api.Tuple{}) || !Is(universe) {
		t.Error("a sorted list is none")
	}
	if len(Sorted(nil)) != 0 || len(Sorted([]api.Tuple{})) != 0 {
		t.Error("Sorted of no tuples has some")
	}
}

// P2.3: lists that are longer than a set may be.
func TestSortedLong(t *testing.T) {
	const n = 10007
	var shuffled []api.Tuple
	for i := range 3 * n {
		shuffled = append(shuffled, number(i*7919%n))
	}
	l, intact := guarded(shuffled)
	want := numbers(0, n)
	checkResult(t, "Sorted of a long list", Sorted(l), want, intact)
	if Is(shuffled) || !Is(want) {
		t.Error("Is of a long list")
	}
	for _, i := range []int{0, 1, n / 2, n - 2} {
		swapped, twice := slices.Clone(want), slices.Clone(want)
		swapped[i], swapped[i+1] = swapped[i+1], swapped[i]
		twice[i] = twice[i+1]
		if Is(swapped) || Is(twice) {
			t.Errorf("Is with a fault at %d", i)
		}
	}
}

// P2.4: all sublists of the universe, with each of its tuples.
func TestFind(t *testing.T) {
	for bits := range 1 << len(universe) {
		l := subset(bits)
		at := 0
		for i, x := range universe {
			there := bits>>i&1 == 1
			if got, found := Find(l, x); got != at || found != there {
				t.Fatalf("Find(%v, %v) = %d, %t, not %d, %t", l, x, got, found, at, there)
			}
			if there {
				at++
			}
		}
	}
}

// P2.4
func TestFindNotSorted(t *testing.T) {
	eachList(3, 4, func(places []int) {
		if ascends(places) {
			return
		}
		l := ofPlaces(places)
		for _, x := range universe {
			if at, found := Find(l, x); at != 0 || found {
				t.Fatalf("Find(%v, %v) = %d, %t", l, x, at, found)
			}
		}
	})
}

// P2.4: the length of a list has no limit.
func TestFindLong(t *testing.T) {
	l := numbers(1, 10000)
	for _, n := range []int{0, 1, 2, 4096, 4097, 5000, 9999, 10000, 10001} {
		at, found := Find(l, number(n))
		if want := max(0, n-1); at != want || found != (n >= 1 && n <= 10000) {
			t.Errorf("Find of number %d = %d, %t", n, at, found)
		}
	}
	l[9999] = l[9998]
	if at, found := Find(l, number(5000)); at != 0 || found {
		t.Errorf("Find in a list that is not sorted at its end = %d, %t", at, found)
	}
}

type operation struct {
	name string
	call func(a, b []api.Tuple) ([]api.Tuple, api.Errno)
	bits func(a, b int) int
}

var operations = []operation{
	{"Union", Union, func(a, b int) int { return a | b }},
	{"Common", Common, func(a, b int) int { return a & b }},
	{"Without", Without, func(a, b int) int { return a &^ b }},
}

// P2.5: all pairs of sublists of seven tuples.
func TestOperations(t *testing.T) {
	for _, o := range operations {
		for i := range 1 << 7 {
			for j := range 1 << 7 {
				a, intactA := guarded(subset(i))
				b, intactB := guarded(subset(j))
				got, e := o.call(a, b)
				if e != api.OK {
					t.Fatalf("%s: %d", o.name, e)
				}
				checkResult(t, o.name, got, subset(o.bits(i, j)), func() bool { return intactA() && intactB() })
			}
		}
	}
}

// P2.5: both arguments are the same memory, or parts of it.
func TestOperationsShared(t *testing.T) {
	for _, o := range operations {
		for _, x := range []struct{ from, to int }{{0, 9}, {0, 4}, {4, 9}, {3, 5}, {2, 2}} {
			l, intact := guarded(universe)
			got, e := o.call(l, l[x.from:x.to])
			if e != api.OK {
				t.Fatalf("%s: %d", o.name, e)
			}
			part := 1<<x.to - 1<<x.from
			checkResult(t, o.name, got, subset(o.bits(1<<len(universe)-1, part)), intact)
		}
	}
}

// P2.5: the limit is that of each argument, and not that of the result.
func TestOperationsLimits(t *testing.T) {
	a, b := numbers(0, 4096), numbers(4096, 4096)
	for _, x := range []struct {
		name           string
		call           func(a, b []api.Tuple) ([]api.Tuple, api.Errno)
		a, b, expected []api.Tuple
	}{
		{"Union", Union, a, b, numbers(0, 8192)},
		{"Union", Union, b, a, numbers(0, 8192)},
		{"Union", Union, a, a, a},
		{"Union", Union, a, nil, a},
		{"Union", Union, nil, b, b},
		{"Common", Common, a, b, nil},
		{"Common", Common, a, a, a},
		{"Common", Common, a, numbers(2048, 4096), numbers(2048, 2048)},
		{"Without", Without, a, b, a},
		{"Without", Without, a, a, nil},
		{"Without", Without, a, numbers(2048, 4096), numbers(0, 2048)},
	} {
		got, e := x.call(x.a, x.b)
		if e != api.OK {
			t.Fatalf("%s: %d", x.name, e)
		}
		checkResult(t, x.name, got, slices.Clone(x.expected), func() bool { return slices.Equal(a, numbers(0, 4096)) && slices.Equal(b, numbers(4096, 4096)) })
	}
}

// P2.5: ErrLimit comes first, whichever argument has which error.
func TestOperationsErrors(t *testing.T) {
	long := numbers(0, 4097)
	longMess := slices.Clone(long)
	longMess[4096] = longMess[4095]
	full := numbers(0, 4096)
	fullMess := slices.Clone(full)
	fullMess[0], fullMess[1] = fullMess[1], fullMess[0]
	twice := of("a:x#r@u:a", "a:x#r@u:a")
	falling := of("b:x#r@u:a", "a:x#r@u:b")
	lists := []struct {
		l        []api.Tuple
		long, is bool
	}{
		{nil, false, true}, {universe, false, true}, {full, false, true},
		{fullMess, false, false}, {twice, false, false}, {falling, false, false},
		{long, true, true}, {longMess, true, false},
	}
	for _, o := range operations {
		for i, a := range lists {
			for j, b := range lists {
				want := api.OK
				if a.long || b.long {
					want = api.ErrLimit
				} else if !a.is || !b.is {
					want = api.ErrOrder
				}
				got, e := o.call(a.l, b.l)
				if e != want || e != api.OK && len(got) != 0 {
					t.Errorf("%s of the lists %d and %d: %d tuples, %d, not %d", o.name, i, j, len(got), e, want)
				}
			}
		}
	}
}

// P2.6: Parse inverts Text.
func TestInverse(t *testing.T) {
	valid := []string{"a", "0", "a0", "0123456789abcdef"}
	texts := map[string]bool{}
	count := 0
	eachList(len(valid), 6, func(places []int) {
		if len(places) < 5 {
			return
		}
		var f [6]string
		for k, i := range places {
			f[k] = valid[i]
		}
		x := tuple(f)
		if got, e := Parse(Text(x)); e != api.OK || got != x {
			t.Fatalf("Parse(%q) = %q, %d", Text(x), got, e)
		}
		texts[Text(x)] = true
		count++
	})
	if count == 0 || len(texts) != count {
		t.Errorf("%d tuples have %d texts", count, len(texts))
	}
}

// must returns the tuples of a call that has no error.
func must(t *testing.T, l []api.Tuple, e api.Errno) []api.Tuple {
	t.Helper()
	if e != api.OK {
		t.Fatal(e)
	}
	return l
}

// P2.6: what Sorted, Union, Common and Without have to do with each other.
func TestConsequences(t *testing.T) {
	pick := func(step, n int) []api.Tuple {
		var l []api.Tuple
		for i := range n {
			l = append(l, number(i*step%10007))
		}
		return Sorted(l)
	}
	lists := [][]api.Tuple{nil, universe, pick(1, 4096), pick(2, 4096), pick(3, 4096), pick(7919, 4096), pick(5003, 100)}
	call := func(f func(a, b []api.Tuple) ([]api.Tuple, api.Errno), a, b []api.Tuple) []api.Tuple {
		l, e := f(a, b)
		return must(t, l, e)
	}
	for _, a := range lists {
		if !slices.Equal(Sorted(a), a) {
			t.Fatal("Sorted changes a sorted list")
		}
		for _, b := range lists {
			union, common := call(Union, a, b), call(Common, a, b)
			if !slices.Equal(union, call(Union, b, a)) || !slices.Equal(common, call(Common, b, a)) {
				t.Fatal("the order of the arguments matters")
			}
			onlyA, onlyB := call(Without, a, b), call(Without, b, a)
			for _, l := range [][]api.Tuple{union, common, onlyA, onlyB} {
				if !Is(l) {
					t.Fatal("a result is not sorted")
				}
			}
			if len(call(Common, onlyA, common))+len(call(Common, onlyA, onlyB))+len(call(Common, common, onlyB)) != 0 {
				t.Fatal("two of the parts have a tuple in common")
			}
			if !slices.Equal(Sorted(slices.Concat(onlyB, common, onlyA)), union) || !slices.Equal(Sorted(slices.Concat(a, b)), union) {
				t.Fatal("the parts are not the union")
			}
		}
	}
}

// The examples of the chapter.
func TestExamples(t *testing.T) {
	l := Sorted(of("b:x#r@u:a", "a:x#r@u:b", "a:x#r@u:a", "b:x#r@u:a"))
	if !slices.Equal(l, of("a:x#r@u:a", "a:x#r@u:b", "b:x#r@u:a")) {
		t.Errorf("Sorted: %v", l)
	}
	if at, found := Find(l, of("a:x#r@u:b")[0]); at != 1 || !found {
		t.Errorf("Find of what is there: %d, %t", at, found)
	}
	if at, found := Find(l, of("c:x#r@u:a")[0]); at != 3 || found {
		t.Errorf("Find of what is not there: %d, %t", at, found)
	}
	if got, e := Union(of("b:x#r@u:a", "a:x#r@u:b"), nil); e != api.ErrOrder || len(got) != 0 {
		t.Errorf("Union: %v, %d", got, e)
	}
}
