package names

import (
	"regexp"
	"slices"
	"strings"
	"testing"

	"countersign/api"
)

func object(space, id string) api.Object { return api.Object{Space: space, ID: id} }

func goal(space, id, rel string) api.Goal { return api.Goal{Object: object(space, id), Rel: rel} }

func subject(space, id, rel string) api.Subject {
	return api.Subject{Object: object(space, id), Rel: rel}
}

// words are fields of all sorts: names, what is nearly one, and what is none.
var words = []string{
	"", "a", "z", "0", "9", "a0", "0a", "doc", "0123456789abcdef", "0123456789abcdef0", strings.Repeat("a", 1000),
	"A", "Doc", "a b", " a", "a ", "a-b", "a_b", "a.b", "a:b", "a#b", "#", ":", "@", "a\x00", "\x00", "a\n", "\xff", "a\x80", "é", "ａ",
}

var nameForm = regexp.MustCompile(`^[a-z0-9]{1,16}\z`)

// nameError says by a regular expression what Check has to return.
func nameError(s string) api.Errno {
	if nameForm.MatchString(s) {
		return api.OK
	}
	return api.ErrName
}

func firstError(l ...api.Errno) api.Errno {
	for _, e := range l {
		if e != api.OK {
			return e
		}
	}
	return api.OK
}

// P1.1
func TestCheckBytes(t *testing.T) {
	for c := range 256 {
		b := byte(c)
		want := api.ErrName
		if 'a' <= b && b <= 'z' || '0' <= b && b <= '9' {
			want = api.OK
		}
		for _, s := range []string{string([]byte{b}), string([]byte{b, 'a'}), string([]byte{'a', b}), string([]byte{'0', b, '0'})} {
			if got := Check(s); got != want {
				t.Errorf("Check(%q) = %d, not %d", s, got, want)
			}
		}
	}
}

// P1.1
func TestCheckLengths(t *testing.T) {
	for n := range 64 {
		want := api.OK
		if n < 1 || n > 16 {
			want = api.ErrName
		}
		if got := Check(strings.Repeat("x", n)); got != want {
			t.Errorf("Check of %d bytes = %d, not %d", n, got, want)
		}
	}
	if Check(strings.Repeat("x", 1<<20)) != api.ErrName {
		t.Error("a long string is a name")
	}
}

// P1.1
func TestCheckFields(t *testing.T) {
	for _, a := range words {
		if got := Check(a); got != nameError(a) {
			t.Errorf("Check(%q) = %d", a, got)
		}
		for _, b := range words {
			both := firstError(nameError(a), nameError(b))
			if got := Object(object(a, b)); got != both {
				t.Errorf("Object(%q, %q) = %d", a, b, got)
			}
			for _, c := range words {
				all := firstError(both, nameError(c))
				if got := Goal(goal(a, b, c)); got != all {
					t.Errorf("Goal(%q, %q, %q) = %d", a, b, c, got)
				}
				if c == "" {
					all = both
				}
				if got := Subject(subject(a, b, c)); got != all {
					t.Errorf("Subject(%q, %q, %q) = %d", a, b, c, got)
				}
			}
		}
	}
}

// P1.2
func TestTexts(t *testing.T) {
	for _, x := range []struct{ space, id, rel, object, goal, subject string }{
		{"doc", "readme", "viewer", "doc:readme", "doc:readme#viewer", "doc:readme#viewer"},
		{"user", "anna", "", "user:anna", "user:anna#", "user:anna"},
		{"", "", "", ":", ":#", ":"},
		{"", "", "r", ":", ":#r", ":#r"},
		{"", "x", "", ":x", ":x#", ":x"},
		{"x", "", "", "x:", "x:#", "x:"},
		{"A b", "#", "c:d", "A b:#", "A b:##c:d", "A b:##c:d"},
		{"\xff", "é", "#", "\xff:é", "\xff:é##", "\xff:é##"},
	} {
		if got := Text(object(x.space, x.id)); got != x.object {
			t.Errorf("Text = %q, not %q", got, x.object)
		}
		if got := GoalText(goal(x.space, x.id, x.rel)); got != x.goal {
			t.Errorf("GoalText = %q, not %q", got, x.goal)
		}
		if got := SubjectText(subject(x.space, x.id, x.rel)); got != x.subject {
			t.Errorf("SubjectText = %q, not %q", got, x.subject)
		}
	}
	long := strings.Repeat("a:#", 1000)
	if GoalText(goal(long, long, long)) != long+":"+long+"#"+long {
		t.Error("the text of a long goal is cut")
	}
}

// P1.3
func TestParse(t *testing.T) {
	const name, form = api.ErrName, api.ErrForm
	for _, x := range []struct {
		s                     string
		object, goal, subject api.Errno
	}{
		{"doc:readme", 0, form, 0},
		{"doc:readme#viewer", form, 0, 0},
		{"0123456789abcdef:0123456789abcdef#0123456789abcdef", form, 0, 0},
		{"0123456789abcdef:0123456789abcdef", 0, form, 0},
		{"", form, form, form},
		{"a", form, form, form},
		{"#", form, form, form},
		{"a#b", form, form, form},
		{":", name, form, name},
		{"a:", name, form, name},
		{":a", name, form, name},
		{"a:b:c", form, form, form},
		{"::", form, form, form},
		{"a:b#c:d", form, form, form},
		{"a:b#c#d", form, form, form},
		{"a:b##", form, form, form},
		{"a#b:c", form, form, form},
		{"#a:b", form, form, form},
		{"a#:b", form, form, form},
		{"a#b:c#d", form, form, form},
		{"A#B:C", form, form, form},
		{"A:b", name, form, name},
		{"a:B", name, form, name},
		{"a:b#C", form, name, name},
		{"A:b#c", form, name, name},
		{"a:B#c", form, name, name},
		{"a:b#", form, name, name},
		{":#", form, name, name},
		{":b#c", form, name, name},
		{"a:#c", form, name, name},
		{" a:b", name, form, name},
		{"a:b ", name, form, name},
		{"a:b#c ", form, name, name},
		{"a:b@c:d", form, form, form},
		{"a:b#c@d", form, name, name},
		{"0123456789abcdef0:a", name, form, name},
		{"a:0123456789abcdef0", name, form, name},
		{"a:b#0123456789abcdef0", form, name, name},
		{"a:\xff", name, form, name},
		{"a:é", name, form, name},
		{"a:b#\x00", form, name, name},
		{strings.Repeat("a", 100000) + ":b", name, form, name},
		{strings.Repeat(":", 100000), form, form, form},
		{"a:b" + strings.Repeat("#", 100000), form, form, form},
	} {
		checkParse(t, x.s, x.object, x.goal, x.subject)
	}
}

func checkParse(t *testing.T, s string, wantObject, wantGoal, wantSubject api.Errno) {
	t.Helper()
	o, e := ParseObject(s)
	if e != wantObject || e == api.OK && (Object(o) != api.OK || Text(o) != s) || e != api.OK && o != (api.Object{}) {
		t.Errorf("ParseObject(%q) = %q, %d, not %d", s, o, e, wantObject)
	}
	g, e := ParseGoal(s)
	if e != wantGoal || e == api.OK && (Goal(g) != api.OK || GoalText(g) != s) || e != api.OK && g != (api.Goal{}) {
		t.Errorf("ParseGoal(%q) = %q, %d, not %d", s, g, e, wantGoal)
	}
	u, e := ParseSubject(s)
	if e != wantSubject || e == api.OK && (Subject(u) != api.OK || SubjectText(u) != s) || e != api.OK && u != (api.Subject{}) {
		t.Errorf("ParseSubject(%q) = %q, %d, not %d", s, u, e, wantSubject)
	}
}

// textError says by regular expressions what a Parse function has to return.
func textError(form, valid *regexp.Regexp, s string) api.Errno {
	if !form.MatchString(s) {
		return api.ErrForm
	}
	if !valid.MatchString(s) {
		return api.ErrName
	}
	return api.OK
}

// P1.3: all texts of up to 7 bytes over four signs.
func TestParseAll(t *testing.T) {
	objectForm, objectValid := regexp.MustCompile(`^[^:#]*:[^:#]*\z`), regexp.MustCompile(`^[a-z0-9]{1,16}:[a-z0-9]{1,16}\z`)
	goalForm, goalValid := regexp.MustCompile(`^[^:#]*:[^:#]*#[^:#]*\z`), regexp.MustCompile(`^[a-z0-9]{1,16}:[a-z0-9]{1,16}#[a-z0-9]{1,16}\z`)
	subjectForm, subjectValid := regexp.MustCompile(`^[^:#]*:[^:#]*(#[^:#]*)?\z`), regexp.MustCompile(`^[a-z0-9]{1,16}:[a-z0-9]{1,16}(#[a-z0-9]{1,16})?\z`)
	level := []string{""}
	for range 8 {
		var next []string
		for _, s := range level {
			checkParse(t, s, textError(objectForm, objectValid, s), textError(goalForm, goalValid, s), textError(subjectForm, subjectValid, s))
			for _, c := range "aB:#" {
				next = append(next, s+string(c))
			}
		}
		level = next
	}
}

// P1.4: each list ascends strictly; its places say what the order of two of them has to be.
func TestCompare(t *testing.T) {
	fields := []string{"", "\x00", " ", "0", "00", "9", "A", "Z", "a", "a\x00", "a0", "aa", "ab", "b", "z", "z0", "~", "é", "\xff", "\xff\xff"}
	if !slices.IsSorted(fields) {
		t.Fatal("the fields are not in order")
	}
	for _, part := range [][]string{{"", "\x00", " "}, {"", "0", "a", "a0", "b", "\xff"}} {
		var objects []api.Object
		var goals []api.Goal
		var subjects []api.Subject
		for _, a := range part {
			for _, b := range part {
				objects = append(objects, object(a, b))
				for _, c := range part {
					goals = append(goals, goal(a, b, c))
					subjects = append(subjects, subject(a, b, c))
				}
			}
		}
		checkOrder(t, "Compare", objects, Compare)
		checkOrder(t, "CompareGoal", goals, CompareGoal)
		checkOrder(t, "CompareSubject", subjects, CompareSubject)
	}
	for i, a := range fields {
		for j, b := range fields {
			want := sign(i - j)
			if Compare(object(a, "x"), object(b, "a")) != firstOrder(want, 1) || Compare(object("x", a), object("x", b)) != want {
				t.Errorf("Compare of %q and %q", a, b)
			}
			if CompareGoal(goal("x", "y", a), goal("x", "y", b)) != want || CompareSubject(subject("x", "y", a), subject("x", "y", b)) != want {
				t.Errorf("order of the relations %q and %q", a, b)
			}
		}
	}
}

func sign(n int) int { return min(max(n, -1), 1) }

func firstOrder(a, b int) int {
	if a != 0 {
		return a
	}
	return b
}

func checkOrder[T any](t *testing.T, what string, l []T, compare func(a, b T) int) {
	t.Helper()
	for i, a := range l {
		for j, b := range l {
			if got := compare(a, b); got != sign(i-j) {
				t.Fatalf("%s(%v, %v) = %d, not %d", what, a, b, got, sign(i-j))
			}
		}
	}
}

// P1.5: the Parse functions invert the texts of what is valid, and texts differ.
func TestInverse(t *testing.T) {
	valid := []string{"a", "b", "0", "ab", "a0", "doc", "0123456789abcdef"}
	goals, subjects := map[string]api.Goal{}, map[string]api.Subject{}
	for _, a := range valid {
		for _, b := range valid {
			for _, c := range append([]string{""}, valid...) {
				u := subject(a, b, c)
				s := SubjectText(u)
				if got, e := ParseSubject(s); e != api.OK || got != u {
					t.Errorf("ParseSubject(%q) = %q, %d", s, got, e)
				}
				if other, there := subjects[s]; there {
					t.Errorf("%q and %q have one text", u, other)
				}
				subjects[s] = u
				if c == "" {
					if got, e := ParseObject(s); e != api.OK || got != object(a, b) {
						t.Errorf("ParseObject(%q) = %q, %d", s, got, e)
					}
					continue
				}
				g := goal(a, b, c)
				s = GoalText(g)
				if got, e := ParseGoal(s); e != api.OK || got != g {
					t.Errorf("ParseGoal(%q) = %q, %d", s, got, e)
				}
				if other, there := goals[s]; there {
					t.Errorf("%q and %q have one text", g, other)
				}
				goals[s] = g
			}
		}
	}
}

// P1.5: the order of objects is not that of their texts.
func TestOrderOfTexts(t *testing.T) {
	a, b := object("a", "z"), object("a0", "a")
	if Compare(a, b) != -1 || strings.Compare(Text(a), Text(b)) != 1 {
		t.Error("a:z and a0:a")
	}
}
