// Package names contains names, and the texts and the order of objects, goals and subjects. See shared/doc/01-names.md.
package names

import (
	"strings"

	"countersign/api"
)

// Check returns the error of a name. (P1.1)
func Check(s string) api.Errno {
	if len(s) < 1 || len(s) > api.MaxName {
		return api.ErrName
	}
	for i := range len(s) {
		if c := s[i]; (c < 'a' || c > 'z') && (c < '0' || c > '9') {
			return api.ErrName
		}
	}
	return api.OK
}

// checkAll returns the first error of some fields that have to be names.
func checkAll(fields ...string) api.Errno {
	for _, s := range fields {
		if e := Check(s); e != api.OK {
			return e
		}
	}
	return api.OK
}

// Object returns the error of an object. (P1.1)
func Object(o api.Object) api.Errno { return checkAll(o.Space, o.ID) }

// Goal returns the error of a goal. (P1.1)
func Goal(g api.Goal) api.Errno { return checkAll(g.Object.Space, g.Object.ID, g.Rel) }

// Subject returns the error of a subject. (P1.1)
func Subject(s api.Subject) api.Errno {
	if s.Rel == "" {
		return Object(s.Object)
	}
	return checkAll(s.Object.Space, s.Object.ID, s.Rel)
}

// Text returns the text of an object. (P1.2)
func Text(o api.Object) string { return o.Space + ":" + o.ID }

// GoalText returns the text of a goal. (P1.2)
func GoalText(g api.Goal) string { return Text(g.Object) + "#" + g.Rel }

// SubjectText returns the text of a subject. (P1.2)
func SubjectText(s api.Subject) string {
	if s.Rel == "" {
		return Text(s.Object)
	}
	return Text(s.Object) + "#" + s.Rel
}

// ParseObject returns the object with a text. (P1.3)
func ParseObject(s string) (api.Object, api.Errno) {
	g, e := parse(s, 0, 0)
	return g.Object, e
}

// ParseGoal returns the goal with a text. (P1.3)
func ParseGoal(s string) (api.Goal, api.Errno) { return parse(s, 1, 1) }

// ParseSubject returns the subject with a text. (P1.3)
func ParseSubject(s string) (api.Subject, api.Errno) {
	g, e := parse(s, 0, 1)
	return api.Subject{Object: g.Object, Rel: g.Rel}, e
}

// parse returns the valid fields of a text that has from least to most signs "#"; Rel is empty if it has none.
func parse(s string, least, most int) (api.Goal, api.Errno) {
	signs := strings.Count(s, "#")
	if strings.Count(s, ":") != 1 || signs < least || signs > most {
		return api.Goal{}, api.ErrForm
	}
	g := divide(s)
	if strings.Contains(g.Object.Space, "#") {
		return api.Goal{}, api.ErrForm
	}
	e := Object(g.Object)
	if e == api.OK && signs > 0 {
		e = Check(g.Rel) // Not Subject: behind a sign an empty Rel is no name.
	}
	if e != api.OK {
		return api.Goal{}, e
	}
	return g, api.OK
}

// divide returns the fields of a text, be they names or not.
func divide(s string) api.Goal {
	rest := s
	ahead := func(sign string) string {
		field, behind, _ := strings.Cut(rest, sign)
		rest = behind
		return field
	}
	var g api.Goal
	g.Object.Space = ahead(":")
	g.Object.ID = ahead("#")
	g.Rel = rest
	return g
}

// Compare returns the order of two objects. (P1.4)
func Compare(a, b api.Object) int {
	return compareFields([2]string{a.Space, b.Space}, [2]string{a.ID, b.ID})
}

// CompareGoal returns the order of two goals. (P1.4)
func CompareGoal(a, b api.Goal) int {
	return compareFields([2]string{a.Object.Space, b.Object.Space}, [2]string{a.Object.ID, b.Object.ID}, [2]string{a.Rel, b.Rel})
}

// CompareSubject returns the order of two subjects. (P1.4)
func CompareSubject(a, b api.Subject) int {
	return compareFields([2]string{a.Object.Space, b.Object.Space}, [2]string{a.Object.ID, b.Object.ID}, [2]string{a.Rel, b.Rel})
}

// compareFields returns the order of the first pair whose fields differ.
func compareFields(pairs ...[2]string) int {
	for _, p := range pairs {
		if c := strings.Compare(p[0], p[1]); c != 0 {
			return c
		}
	}
	return 0
}
