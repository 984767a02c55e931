package filters

import (
	"regexp"
	"slices"
	"strconv"
	"strings"
	"testing"

	"countersign/api"
	"countersign/names"
	"countersign/tuples"
)

func tuple(f [6]string) api.Tuple {
	return api.Tuple{
		Goal:    api.Goal{Object: api.Object{Space: f[0], ID: f[1]}, Rel: f[2]},
		Subject: subject(f[3], f[4], f[5]),
	}
}

func subject(space, id, rel string) api.Subject {
	return api.Subject{Object: api.Object{Space: space, ID: id}, Rel: rel}
}

// fieldsOf returns the six fields of a tuple, in their order.
func fieldsOf(t api.Tuple) []string {
	return []string{t.Goal.Object.Space, t.Goal.Object.ID, t.Goal.Rel, t.Subject.Object.Space, t.Subject.Object.ID, t.Subject.Rel}
}

var tupleForm = regexp.MustCompile(`^([^:#@]*):([^:#@]*)#([^:#@]*)@([^:#@]*):([^:#@]*)(?:#([^:#@]+))?\z`)

// of returns the tuples with some texts; their fields need not be names.
func of(texts ...string) []api.Tuple {
	var l []api.Tuple
	for _, s := range texts {
		m := tupleForm.FindStringSubmatch(s)
		if m == nil {
			panic(s)
		}
		l = append(l, tuple([6]string(m[1:])))
	}
	return l
}

var filterForm = regexp.MustCompile(`^([a-z0-9]{1,16}|\*):([a-z0-9]{1,16}|\*)#([a-z0-9]{1,16}|\*)(@([a-z0-9]{1,16}):([a-z0-9]{1,16})(?:#([a-z0-9]{1,16}))?)?\z`)

// filter returns the valid filter with a text, by a regular expression and not by Parse.
func filter(s string) api.Filter {
	m := filterForm.FindStringSubmatch(s)
	if m == nil {
		panic(s)
	}
	for i := range m {
		if m[i] == "*" {
			m[i] = ""
		}
	}
	return api.Filter{Space: m[1], ID: m[2], Rel: m[3], Exact: m[4] != "", Subject: subject(m[5], m[6], m[7])}
}

// eachFilter calls visit with all filters over some fields and subjects, exact or not.
func eachFilter(fields []string, subjects []api.Subject, visit func(f api.Filter)) {
	for _, space := range fields {
		for _, id := range fields {
			for _, rel := range fields {
				for _, u := range subjects {
					visit(api.Filter{Space: space, ID: id, Rel: rel, Subject: u})
					visit(api.Filter{Space: space, ID: id, Rel: rel, Subject: u, Exact: true})
				}
			}
		}
	}
}

// validFilters returns all valid filters over some fields and subjects.
func validFilters(fields []string, subjects ...api.Subject) []api.Filter {
	var out []api.Filter
	eachFilter(append([]string{""}, fields...), append([]api.Subject{{}}, subjects...), func(f api.Filter) {
		if f.Exact != (f.Subject == api.Subject{}) {
			out = append(out, f)
		}
	})
	return out
}

// sixteen returns the filters that have some of the fields of a tuple, or its subject.
func sixteen(t api.Tuple) []api.Filter {
	var out []api.Filter
	for bits := range 16 {
		var f api.Filter
		if bits&1 != 0 {
			f.Space = t.Goal.Object.Space
		}
		if bits&2 != 0 {
			f.ID = t.Goal.Object.ID
		}
		if bits&4 != 0 {
			f.Rel = t.Goal.Rel
		}
		if bits&8 != 0 {
			f.Exact, f.Subject = true, t.Subject
		}
		out = append(out, f)
	}
	return out
}

var nameForm = regexp.MustCompile(`^[a-z0-9]{1,16}\z`)

// wantCheck says what Check has to return for a filter.
func wantCheck(f api.Filter) api.Errno {
	if !f.Exact && f.Subject != (api.Subject{}) {
		return api.ErrForm
	}
	must := []string{}
	may := []string{f.Space, f.ID, f.Rel}
	if f.Exact {
		must = []string{f.Subject.Object.Space, f.Subject.Object.ID}
		may = append(may, f.Subject.Rel)
	}
	for _, s := range may {
		if s != "" {
			must = append(must, s)
		}
	}
	for _, s := range must {
		if !nameForm.MatchString(s) {
			return api.ErrName
		}
	}
	return api.OK
}

// P3.1: all filters over some fields.
func TestCheckFields(t *testing.T) {
	fields := []string{"", "a", "0123456789abcdef", "0123456789abcdef0", "A", "*", "a b"}
	var subjects []api.Subject
	for _, space := range fields[:5] {
		for _, id := range fields[:5] {
			for _, rel := range fields[:5] {
				subjects = append(subjects, subject(space, id, rel))
			}
		}
	}
	eachFilter(fields, subjects, func(f api.Filter) {
		if got, want := Check(f), wantCheck(f); got != want {
			t.Fatalf("Check(%+v) = %d, not %d", f, got, want)
		}
	})
}

// P3.1
func TestCheck(t *testing.T) {
	long := strings.Repeat("a", 1<<20)
	for _, x := range []struct {
		f    api.Filter
		want api.Errno
	}{
		{api.Filter{}, api.OK},
		{api.Filter{Space: "doc", ID: "a", Rel: "viewer"}, api.OK},
		{api.Filter{ID: "a"}, api.OK},
		{api.Filter{Rel: "a", Exact: true, Subject: subject("user", "anna", "")}, api.OK},
		{api.Filter{Exact: true, Subject: subject("group", "eng", "member")}, api.OK},
		{api.Filter{Exact: true}, api.ErrName},
		{api.Filter{Exact: true, Subject: subject("", "a", "")}, api.ErrName},
		{api.Filter{Exact: true, Subject: subject("a", "", "")}, api.ErrName},
		{api.Filter{Exact: true, Subject: subject("", "", "a")}, api.ErrName},
		{api.Filter{Subject: subject("user", "anna", "")}, api.ErrForm},
		{api.Filter{Subject: subject("", "", "r")}, api.ErrForm},
		{api.Filter{Subject: subject("", "b", "")}, api.ErrForm},
		{api.Filter{Subject: subject("U", "", "")}, api.ErrForm},
		{api.Filter{Space: "A", Subject: subject("user", "anna", "")}, api.ErrForm},
		{api.Filter{Space: "A"}, api.ErrName},
		{api.Filter{ID: "*"}, api.ErrName},
		{api.Filter{Rel: "a\n"}, api.ErrName},
		{api.Filter{Space: long}, api.ErrName},
		{api.Filter{Exact: true, Subject: subject("user", long, "")}, api.ErrName},
	} {
		if got := Check(x.f); got != x.want {
			t.Errorf("Check(%+.40v) = %d, not %d", x.f, got, x.want)
		}
	}
}

// P3.1: all filters and all tuples over some fields, valid or not; a Subject that is not exact does not matter.
func TestTakes(t *testing.T) {
	fields := []string{"", "a", "A"}
	subjects := []api.Subject{subject("", "", ""), subject("u", "a", ""), subject("u", "a", "m"), subject("u", "b", ""), subject("v", "a", ""), subject("", "", "m")}
	eachFilter(fields, subjects, func(f api.Filter) {
		for _, space := range fields {
			for _, id := range fields {
				for _, rel := range fields {
					for _, u := range subjects {
						x := api.Tuple{Goal: api.Goal{Object: api.Object{Space: space, ID: id}, Rel: rel}, Subject: u}
						want := strings.Contains("|"+space, "|"+f.Space) && strings.Contains("|"+id, "|"+f.ID) && strings.Contains("|"+rel, "|"+f.Rel)
						if f.Exact && names.SubjectText(f.Subject) != names.SubjectText(u) {
							want = false
						}
						if got := Takes(f, x); got != want {
							t.Fatalf("Takes(%+v, %+v) = %t", f, x, got)
						}
					}
				}
			}
		}
	})
	x := of("doc:readme#viewer@user:anna")[0]
	if !Takes(filter("doc:*#viewer"), x) || Takes(filter("do:*#viewer"), x) || Takes(filter("docs:*#*"), x) || !Takes(filter("*:*#*@user:anna"), x) || Takes(filter("*:*#*@user:anna#viewer"), x) {
		t.Error(x)
	}
}

// P3.1: the fields are not looked at, but for their being there.
func TestPrefix(t *testing.T) {
	want := [16]int{0, 1, 0, 2, 0, 1, 0, 3, 0, 1, 0, 2, 0, 1, 0, 4}
	for _, x := range of("doc:readme#viewer@user:anna", "D O C:*#\xff@:", "a:a#a@a:a#a") {
		for i, f := range sixteen(x) {
			if got := Prefix(f); got != want[i] {
				t.Errorf("Prefix(%+v) = %d, not %d", f, got, want[i])
			}
			if !f.Exact {
				f.Subject = x.Subject
			}
			if got := Prefix(f); got != want[i] {
				t.Errorf("Prefix(%+v) = %d, not %d", f, got, want[i])
			}
		}
	}
}

// universe is a sorted list; some of its tuples are not valid.
var universe = of(":#@:", "a:#r@u:a", "a:x#@u:a", "a:x#r@u:a", "a:x#r@u:a#m", "a:x#r@u:b", "a:x#s@u:a", "a:y#r@u:a", "a0:a#r@v:a", "b:x#r@u:a", "\xff:#@:")

func subset(bits int) []api.Tuple {
	var l []api.Tuple
	for i, t := range universe {
		if bits>>i&1 == 1 {
			l = append(l, t)
		}
	}
	return l
}

// first returns so many things of a tuple, field by field, as the prefix of a filter says.
func first(t api.Tuple, prefix int) []string {
	return fieldsOf(t)[:[5]int{0, 1, 2, 3, 6}[prefix]]
}

// wantSpan looks at each tuple of a list.
func wantSpan(l []api.Tuple, f api.Filter) (from, to int) {
	model := api.Tuple{Goal: api.Goal{Object: api.Object{Space: f.Space, ID: f.ID}, Rel: f.Rel}, Subject: f.Subject}
	for _, t := range l {
		switch slices.Compare(first(t, Prefix(f)), first(model, Prefix(f))) {
		case -1:
			from++
			to++
		case 0:
			to++
		}
	}
	return from, to
}

// guarded returns a copy of a list with spare capacity, and a function that tells whether the copy and its spare capacity are as they were.
func guarded(l []api.Tuple) ([]api.Tuple, func() bool) {
	mark := of("spare:x#r@u:a")[0]
	whole := slices.Concat(l, []api.Tuple{mark, mark, mark})
	before := slices.Clone(whole)
	return whole[:len(l)], func() bool { return slices.Equal(whole, before) }
}

// checkSelect looks at the tuples that Select returns, and, by overwriting them, at their memory.
func checkSelect(t *testing.T, l []api.Tuple, f api.Filter) {
	t.Helper()
	l, intact := guarded(l)
	got, e := Select(l, f)
	var want []api.Tuple
	for _, x := range l {
		if Takes(f, x) {
			want = append(want, x)
		}
	}
	if e != api.OK || !slices.Equal(got, want) {
		t.Fatalf("Select(%+v, %+v) = %+v, %d, not %+v", l, f, got, e, want)
	}
	if cap(got) != len(got) {
		t.Fatalf("Select(%+v, %+v) has spare capacity: %d of %d", l, f, cap(got), len(got))
	}
	for i := range got {
		got[i] = api.Tuple{}
		got[i].Goal.Rel = "overwritten"
	}
	if !intact() {
		t.Fatalf("Select(%+v, %+v) modifies the list or shares its memory", l, f)
	}
}

// P3.2, P3.5: all sublists of the universe with all filters over some fields.
func TestSpanAndSelect(t *testing.T) {
	filters := validFilters([]string{"a", "x", "r"}, subject("u", "a", ""), subject("u", "a", "m"))
	filters = append(filters, filter("a0:*#*"), filter("a00:*#*"), filter("b:x#r@u:a"), filter("b:x#r@u:b"), filter("0:x#r"), filter("z:x#r"), filter("a:x0#r"), filter("a:x#r0"), filter("a:x#r@u:a#a"), filter("a:x#r@u:a#z"), filter("a:y#*"), filter("a:x#s@u:a"))
	for bits := range 1 << len(universe) {
		l := subset(bits)
		for _, f := range filters {
			from, to, e := Span(l, f)
			if wantFrom, wantTo := wantSpan(l, f); from != wantFrom || to != wantTo || e != api.OK {
				t.Fatalf("Span(%+v, %+v) = %d, %d, %d, not %d, %d", l, f, from, to, e, wantFrom, wantTo)
			}
		}
		if bits%37 == 0 || bits == 1<<len(universe)-1 {
			for _, f := range filters {
				checkSelect(t, l, f)
			}
		}
	}
}

// P3.2: the sixteen filters of each tuple, in the list that has it and in one that has not.
func TestSixteen(t *testing.T) {
	for i, x := range universe {
		if tuples.Check(x) != api.OK {
			continue
		}
		without := slices.Delete(slices.Clone(universe), i, i+1)
		for _, f := range sixteen(x) {
			for _, l := range [][]api.Tuple{universe, without} {
				from, to, e := Span(l, f)
				if wantFrom, wantTo := wantSpan(l, f); from != wantFrom || to != wantTo || e != api.OK {
					t.Errorf("Span(%+v, %+v) = %d, %d, %d, not %d, %d", l, f, from, to, e, wantFrom, wantTo)
				}
				checkSelect(t, l, f)
			}
		}
	}
}

// number returns a tuple for each n below a million; they ascend with n.
func number(n int) api.Tuple {
	s := strconv.Itoa(1000000 + n)
	return tuple([6]string{"d" + s[1:2], s[2:4], s[4:5], "user", s[5:], ""})
}

// P3.2: the length of a list has no limit.
func TestLong(t *testing.T) {
	var l []api.Tuple
	for n := range 20000 {
		l = append(l, number(100+n*40))
	}
	for _, s := range []string{"*:*#*", "d0:*#*", "d3:*#*", "d7:99#*", "d7:99#9", "d7:99#9@user:80", "d7:99#9@user:81", "d7:99#9@user:99", "d8:*#*", "d8:00#0", "c:*#*", "z:*#*", "*:50#*", "*:*#5@user:60", "d4:*#5", "d4:44#4@user:40", "d4:44#5@user:40", "d0:00#1@user:00", "d0:00#0@user:00"} {
		f := filter(s)
		from, to, e := Span(l, f)
		if wantFrom, wantTo := wantSpan(l, f); from != wantFrom || to != wantTo || e != api.OK {
			t.Errorf("Span(%s) = %d, %d, %d, not %d, %d", s, from, to, e, wantFrom, wantTo)
		}
		checkSelect(t, l, f)
	}
}

// P3.2: the error of the filter comes first, then that of the list, wherever its fault is.
func TestSpanErrors(t *testing.T) {
	falling := of("b:x#r@u:a", "a:x#r@u:b")
	twice := of("a:x#r@u:a", "a:x#r@u:b", "a:x#r@u:b")
	late := append(slices.Clone(universe), universe[0])
	lists := []struct {
		l  []api.Tuple
		is bool
	}{{nil, true}, {universe, true}, {falling[:1], true}, {falling, false}, {twice, false}, {late, false}}
	filters := []api.Filter{
		{}, filter("a:x#r@u:a"), filter("*:x#*"), filter("zz:x#r"),
		{Space: "A"}, {ID: "*"}, {Rel: "a b"}, {Exact: true}, {Exact: true, Subject: subject("u", "", "")},
		{Subject: subject("u", "a", "")}, {Space: "A", Subject: subject("u", "a", "")},
	}
	for i, x := range lists {
		for _, f := range filters {
			want := wantCheck(f)
			if want == api.OK && !x.is {
				want = api.ErrOrder
			}
			from, to, e := Span(x.l, f)
			if e != want || e != api.OK && (from != 0 || to != 0) {
				t.Errorf("Span(list %d, %+v) = %d, %d, %d, not %d", i, f, from, to, e, want)
			}
			got, e := Select(x.l, f)
			if e != want || e != api.OK && len(got) != 0 {
				t.Errorf("Select(list %d, %+v) = %+v, %d, not %d", i, f, got, e, want)
			}
		}
	}
}

// P3.3, P3.5: all pairs of valid filters over some fields.
func TestBoth(t *testing.T) {
	filters := validFilters([]string{"a", "x"}, subject("u", "a", ""), subject("u", "a", "m"), subject("a", "a", ""))
	var all []api.Tuple
	for _, f := range filters {
		if f.Exact && f.Space != "" && f.ID != "" && f.Rel != "" {
			all = append(all, tuple([6]string{f.Space, f.ID, f.Rel, f.Subject.Object.Space, f.Subject.Object.ID, f.Subject.Rel}))
		}
	}
	for _, a := range filters {
		for _, b := range filters {
			f, some, e := Both(a, b)
			if e != api.OK || !some && f != (api.Filter{}) || some && Check(f) != api.OK {
				t.Fatalf("Both(%+v, %+v) = %+v, %t, %d", a, b, f, some, e)
			}
			taken := false
			for _, x := range all {
				both := Takes(a, x) && Takes(b, x)
				taken = taken || both
				if some && Takes(f, x) != both {
					t.Fatalf("Both(%+v, %+v) = %+v, which is wrong for %+v", a, b, f, x)
				}
			}
			if some != taken {
				t.Fatalf("Both(%+v, %+v) = %+v, %t", a, b, f, some)
			}
			if g, other, e := Both(b, a); g != f || other != some || e != api.OK {
				t.Fatalf("Both(%+v, %+v) = %+v, %t, %d, and not %+v, %t", b, a, g, other, e, f, some)
			}
		}
		if f, some, e := Both(a, a); f != a || !some || e != api.OK {
			t.Fatalf("Both(%+v, itself) = %+v, %t, %d", a, f, some, e)
		}
		if f, some, e := Both(a, api.Filter{}); f != a || !some || e != api.OK {
			t.Fatalf("Both(%+v, the zero filter) = %+v, %t, %d", a, f, some, e)
		}
	}
}

// P3.3
func TestBothTexts(t *testing.T) {
	for _, x := range []struct{ a, b, want string }{
		{"a:*#r", "*:x#*@u:a", "a:x#r@u:a"},
		{"a:*#r", "b:*#*", ""},
		{"*:x#*", "*:y#*", ""},
		{"*:*#r", "*:*#s", ""},
		{"a:*#*@u:a", "*:x#*@u:a", "a:x#*@u:a"},
		{"*:*#*@u:a", "*:*#*@u:a#m", ""},
		{"*:*#*@u:a", "*:*#*@u:b", ""},
		{"*:*#*@u:a", "*:*#*@v:a", ""},
		{"*:*#*@u:a#m", "*:*#r", "*:*#r@u:a#m"},
		{"*:*#*", "*:*#*", "*:*#*"},
		{"a:x#r", "a:x#r", "a:x#r"},
		{"a:x#*", "a:y#*@u:a", ""},
		{"*:y#*", "z:*#*", "z:y#*"},
	} {
		want := api.Filter{}
		if x.want != "" {
			want = filter(x.want)
		}
		if f, some, e := Both(filter(x.a), filter(x.b)); f != want || some != (x.want != "") || e != api.OK {
			t.Errorf("Both(%s, %s) = %+v, %t, %d, not %s", x.a, x.b, f, some, e, x.want)
		}
	}
}

// P3.3: the error of a comes first, be there a common tuple or not.
func TestBothErrors(t *testing.T) {
	filters := []api.Filter{
		{}, filter("a:x#r@u:a"), filter("b:*#*"), {Space: "A"}, {Space: "a", Rel: "\x00"}, {Exact: true}, {Exact: true, Subject: subject("u", "a", "#")},
		{Subject: subject("u", "a", "")}, {Subject: subject("", "", "r")}, {Space: "A", Subject: subject("u", "a", "")},
	}
	for _, a := range filters {
		for _, b := range filters {
			want := wantCheck(a)
			if want == api.OK {
				want = wantCheck(b)
			}
			f, some, e := Both(a, b)
			if e != want || e != api.OK && (some || f != (api.Filter{})) {
				t.Errorf("Both(%+v, %+v) = %+v, %t, %d, not %d", a, b, f, some, e, want)
			}
		}
	}
}

// P3.4: filters that are not valid have a text, too.
func TestText(t *testing.T) {
	for _, x := range []struct {
		f    api.Filter
		text string
	}{
		{api.Filter{}, "*:*#*"},
		{api.Filter{Space: "doc", Rel: "viewer", Exact: true, Subject: subject("user", "anna", "")}, "doc:*#viewer@user:anna"},
		{api.Filter{Space: "doc", ID: "a", Rel: "viewer", Exact: true, Subject: subject("group", "eng", "member")}, "doc:a#viewer@group:eng#member"},
		{api.Filter{Space: "a"}, "a:*#*"},
		{api.Filter{ID: "a"}, "*:a#*"},
		{api.Filter{Rel: "a"}, "*:*#a"},
		{api.Filter{Exact: true}, "*:*#*@:"},
		{api.Filter{Exact: true, Subject: subject("", "", "r")}, "*:*#*@:#r"},
		{api.Filter{Subject: subject("user", "anna", "")}, "*:*#*"},
		{api.Filter{Space: "*", ID: "A b", Rel: "\xff#@"}, "*:A b#\xff#@"},
		{api.Filter{Space: "a", Exact: true, Subject: subject("", "*", "")}, "a:*#*@:*"},
		{api.Filter{Space: strings.Repeat("é:", 1000)}, strings.Repeat("é:", 1000) + ":*#*"},
	} {
		if got := Text(x.f); got != x.text {
			t.Errorf("Text(%+v) = %+v, not %+v", x.f, got, x.text)
		}
	}
}

var fieldForm = regexp.MustCompile(`^([a-z0-9]{1,16}|\*)\z`)
var aheadForm = regexp.MustCompile(`^([^:#]*):([^:#]*)#([^:#]*)\z`)

// parseError says what Parse has to return for a text.
func parseError(s string) api.Errno {
	parts := strings.Split(s, "@")
	m := aheadForm.FindStringSubmatch(parts[0])
	if len(parts) > 2 || m == nil {
		return api.ErrForm
	}
	for _, field := range m[1:] {
		if !fieldForm.MatchString(field) {
			return api.ErrName
		}
	}
	if len(parts) == 1 {
		return api.OK
	}
	_, e := names.ParseSubject(parts[1])
	return e
}

func checkParse(t *testing.T, s string, want api.Errno) {
	t.Helper()
	got, e := Parse(s)
	if e != want || (e == api.OK) != filterForm.MatchString(s) {
		t.Fatalf("Parse(%q): %d, not %d", s, e, want)
	}
	if e == api.OK && (Check(got) != api.OK || Text(got) != s || got != filter(s)) || e != api.OK && got != (api.Filter{}) {
		t.Fatalf("Parse(%q) = %+v, %d", s, got, e)
	}
}

// P3.4
func TestParse(t *testing.T) {
	const name, form = api.ErrName, api.ErrForm
	for _, x := range []struct {
		s    string
		want api.Errno
	}{
		{"doc:*#viewer@user:anna", api.OK},
		{"*:*#*", api.OK},
		{"*:*#*@group:eng#member", api.OK},
		{"0123456789abcdef:0123456789abcdef#0123456789abcdef@0123456789abcdef:0123456789abcdef#0123456789abcdef", api.OK},
		{"", form},
		{"*", form},
		{"@", form},
		{"@u:a", form},
		{"a:x", form},
		{"a#r", form},
		{"a#r:x", form},
		{"A#r:x", form},
		{"a:x:y#r", form},
		{"a:x#r#s", form},
		{"a:x#r:s", form},
		{"a:x#r@", form},
		{"a:x#r@u", form},
		{"a:x#r@u:a@", form},
		{"a:x#r@@u:a", form},
		{"A:x#r@u:a@u:a", form},
		{"a:x#r@u:a:b", form},
		{"a:x#r@u:a#m#n", form},
		{"a:x#r@u#m:a", form},
		{"a:x@u:a", form},
		{"a:x@u:a#r", form},
		{"a:*#A", name},
		{"A:*#*", name},
		{"a:A#*", name},
		{":*#*", name},
		{"*:#*", name},
		{"*:*#", name},
		{"**:*#*", name},
		{"*a:*#*", name},
		{"a*:*#*", name},
		{"*:**#*", name},
		{"*:*#* ", name},
		{"A:x#r@u", name},
		{"a:#r@u:a:b", name},
		{"a:x#r@U:a", name},
		{"a:x#r@u:a#", name},
		{"a:x#r@*:a", name},
		{"a:x#r@u:*", name},
		{"a:x#r@u:a#*", name},
		{"a:x#r@*", form},
		{"a:x#r\n", name},
		{"\xff:x#r", name},
		{"0123456789abcdef0:*#*", name},
		{"*:*#*@u:0123456789abcdef0", name},
		{strings.Repeat("@", 100000), form},
		{strings.Repeat("*", 100000) + ":*#*", name},
	} {
		checkParse(t, x.s, x.want)
	}
}

// P3.4: all texts of up to 6 bytes over the signs, and all pairs of some parts.
func TestParseAll(t *testing.T) {
	var walk func(s string)
	walk = func(s string) {
		checkParse(t, s, parseError(s))
		for i := range 6 {
			if len(s) < 6 {
				walk(s + "aB:#@*"[i:i+1])
			}
		}
	}
	walk("")
	aheads := []string{"", "*", "a:*", "a:*#", ":*#*", "*:*#*", "a:x#r", "A:x#r", "a:X#r", "a:x#R", "a:x#*", "a:**#r", "a:x#r#s", "a:x:y#r", "a#r:x", "a:#r", "a:x#r:s"}
	behinds := []string{"", "*", "u", "u:a", "U:a", "u:A", "u:a#m", "u:a#M", "u:a#", "u:a#*", "*:a", "u:*", ":", "u#m:a", "u:a:b", "u:a#m#n", "#", "u:a@"}
	for _, a := range aheads {
		for _, b := range behinds {
			checkParse(t, a+b, parseError(a+b))
			checkParse(t, a+"@"+b, parseError(a+"@"+b))
		}
	}
}

// P3.5: Parse inverts Text, and texts of different filters differ.
func TestInverse(t *testing.T) {
	filters := validFilters([]string{"a", "0", "0123456789abcdef"}, subject("a", "a", ""), subject("a", "a", "a"), subject("a", "0", ""), subject("0123456789abcdef", "a", "a"))
	texts := map[string]bool{}
	for _, f := range filters {
		if got, e := Parse(Text(f)); e != api.OK || got != f {
			t.Fatalf("Parse(%q) = %+v, %d", Text(f), got, e)
		}
		texts[Text(f)] = true
	}
	if len(texts) != len(filters) || len(filters) != 4*4*4*5 {
		t.Errorf("%d filters have %d texts", len(filters), len(texts))
	}
}

// P3.5: the zero filter; the part in the span; a prefix of 4.
func TestConsequences(t *testing.T) {
	for _, x := range append(of("D O C:*#\xff@u:a", "doc:a#v@:#r"), universe...) {
		if !Takes(api.Filter{}, x) {
			t.Errorf("the zero filter does not take %+v", x)
		}
	}
	if from, to, e := Span(universe, api.Filter{}); from != 0 || to != len(universe) || e != api.OK {
		t.Errorf("the span of the zero filter: %d, %d, %d", from, to, e)
	}
	for _, f := range validFilters([]string{"a", "x", "r"}, subject("u", "a", ""), subject("u", "b", "")) {
		from, to, e := Span(universe, f)
		if e != api.OK {
			t.Fatal(e)
		}
		part, e := Select(universe[from:to], f)
		if e != api.OK {
			t.Fatal(e)
		}
		whole, e := Select(universe, f)
		if e != api.OK || !slices.Equal(part, whole) || Prefix(f) == 4 && len(whole) > 1 {
			t.Errorf("Select(%+v) = %+v, %d; in the span %+v", f, whole, e, part)
		}
	}
}

// The examples of the chapter.
func TestExamples(t *testing.T) {
	l := of("a:x#r@u:a", "a:x#r@u:b", "a:y#s@u:a", "b:x#r@u:a")
	f, e := Parse("a:x#*")
	if from, to, e2 := Span(l, f); e != api.OK || Prefix(f) != 2 || from != 0 || to != 2 || e2 != api.OK {
		t.Error("a:x#*:", e, Prefix(f), from, to, e2)
	}
	if got, e := Select(l, filter("*:x#r@u:a")); e != api.OK || !slices.Equal(got, of("a:x#r@u:a", "b:x#r@u:a")) {
		t.Error("*:x#r@u:a:", got, e)
	}
	if from, to, e := Span(l, filter("a:x2#*")); from != 2 || to != 2 || e != api.OK {
		t.Error("a:x2#*:", from, to, e)
	}
	if from, to, e := Span(l, filter("*:y#*")); from != 0 || to != 4 || e != api.OK {
		t.Error("*:y#*:", from, to, e)
	}
	if Prefix(filter("a:*#r@u:a")) != 1 {
		t.Error("the prefix of a:*#r@u:a")
	}
}
