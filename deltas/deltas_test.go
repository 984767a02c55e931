package deltas

import (
	"math/rand"
	"regexp"
	"slices"
	"strconv"
	"strings"
	"testing"

	"countersign/api"
	"countersign/sets"
	"countersign/tuples"
)

// The functions have the signatures of the chapter.
var (
	_ func([]api.Change) api.Errno                               = Check
	_ func([]api.Change) bool                                    = Is
	_ func([]api.Change) ([]api.Change, api.Errno)               = Normal
	_ func(sets.Set, []api.Change) (sets.Set, api.Errno)         = Apply
	_ func(sets.Set, []api.Change) ([]api.Change, api.Errno)     = Invert
	_ func([]api.Change, []api.Change) ([]api.Change, api.Errno) = Compose
	_ func(sets.Set, sets.Set) []api.Change                      = Between
)

// build returns the tuple with six fields, be they names or not.
func build(f [6]string) api.Tuple {
	return api.Tuple{
		Goal:    api.Goal{Object: api.Object{Space: f[0], ID: f[1]}, Rel: f[2]},
		Subject: api.Subject{Object: api.Object{Space: f[3], ID: f[4]}, Rel: f[5]},
	}
}

// fieldsOf returns the six fields of a tuple, in their order.
func fieldsOf(t api.Tuple) [6]string {
	g, u := t.Goal, t.Subject
	return [6]string{g.Object.Space, g.Object.ID, g.Rel, u.Object.Space, u.Object.ID, u.Rel}
}

// compare is the order of tuples, field by field.
func compare(a, b api.Tuple) int {
	x, y := fieldsOf(a), fieldsOf(b)
	return slices.Compare(x[:], y[:])
}

var tupleForm = regexp.MustCompile(`^([a-z0-9]{1,16}):([a-z0-9]{1,16})#([a-z0-9]{1,16})@([a-z0-9]{1,16}):([a-z0-9]{1,16})(?:#([a-z0-9]{1,16}))?\z`)

// of returns the valid tuples with some texts, by a regular expression.
func of(texts ...string) []api.Tuple {
	var l []api.Tuple
	for _, s := range texts {
		m := tupleForm.FindStringSubmatch(s)
		if m == nil {
			panic(s)
		}
		l = append(l, build([6]string(m[1:])))
	}
	return l
}

var nameForm = regexp.MustCompile(`^[a-z0-9]{1,16}\z`)

// valid says field by field whether a tuple is valid.
func valid(t api.Tuple) bool {
	for i, s := range fieldsOf(t) {
		if !nameForm.MatchString(s) && (i != 5 || s != "") {
			return false
		}
	}
	return true
}

// wrong has tuples of which one field is not valid, or all are not.
func wrong() []api.Tuple {
	out := []api.Tuple{{}, build([6]string{"", "", "", "u", "a", ""}), build([6]string{"a", "x", "r", "", "", ""})}
	for i := range 6 {
		for _, s := range []string{"", "A", "*", "a b", "a\x00", "\xff", "é", "a#", "0123456789abcdef0", strings.Repeat("a", 1<<16)} {
			f := [6]string{"a", "x", "r", "u", "a", "m"}
			f[i] = s
			if i != 5 || s != "" {
				out = append(out, build(f))
			}
		}
	}
	return out
}

// universe is in order; each tuple differs from the one ahead of it in another field, and it is not in the order of its texts.
var universe = of("a:x#r@u:a", "a:x#r@u:a#m", "a:x#r@u:a0", "a:x#r@u0:a", "a:x#r0@u:a", "a:x0#r@u:a#m", "a0:x#r@u:a")

// put and drop return the changes of a tuple.
func put(t api.Tuple) api.Change  { return api.Change{Tuple: t} }
func drop(t api.Tuple) api.Change { return api.Change{Tuple: t, Drop: true} }

// each returns one change of each tuple of a list.
func each(l []api.Tuple, how func(t api.Tuple) api.Change) []api.Change {
	var out []api.Change
	for _, t := range l {
		out = append(out, how(t))
	}
	return out
}

// both returns both changes of each tuple of a list.
func both(l []api.Tuple) []api.Change {
	var out []api.Change
	for _, t := range l {
		out = append(out, put(t), drop(t))
	}
	return out
}

// lists returns all lists of up to some changes, out of a list.
func lists(changes []api.Change, most int) [][]api.Change {
	out := [][]api.Change{nil}
	for from := 0; most > 0; most-- {
		to := len(out)
		for _, l := range out[from:to] {
			for _, c := range changes {
				out = append(out, append(slices.Clip(l), c))
			}
		}
		from = to
	}
	return out
}

// subset returns the tuples of a list whose bits are set.
func subset(all []api.Tuple, bits int) []api.Tuple {
	var l []api.Tuple
	for i, t := range all {
		if bits>>i&1 == 1 {
			l = append(l, t)
		}
	}
	return l
}

// number returns a tuple for each n below a million; they ascend with n.
func number(n int) api.Tuple {
	s := strconv.Itoa(1000000 + n)
	return build([6]string{"d" + s[1:2], s[2:4], s[4:5], "u", s[5:], ""})
}

// numbers returns the tuples of the numbers from, from + step, and so on, below to.
func numbers(from, to, step int) []api.Tuple {
	var l []api.Tuple
	for n := from; n < to; n += step {
		l = append(l, number(n))
	}
	return l
}

// must returns the set of some tuples.
func must(t *testing.T, l []api.Tuple) sets.Set {
	t.Helper()
	s, e := sets.Of(l)
	if e != api.OK {
		t.Fatalf("sets.Of: %d", e)
	}
	return s
}

// short shows a list as text, and of a long one its beginning.
func short(l []api.Change) string {
	var b strings.Builder
	for i, c := range l {
		if i == 8 {
			return b.String() + " .. " + strconv.Itoa(len(l))
		}
		b.WriteString(map[bool]string{false: " +", true: " -"}[c.Drop] + tuples.Text(c.Tuple))
	}
	return b.String()
}

// want looks whether a list is another one, and has no room for more.
func want(t *testing.T, what any, got, want []api.Change) {
	t.Helper()
	if !slices.Equal(got, want) {
		t.Fatalf("%v: %s, not %s", what, short(got), short(want))
	}
	if cap(got) != len(got) {
		t.Fatalf("%v: room for %d, has %d", what, cap(got), len(got))
	}
}

// wantErrno looks whether a call has returned an error, and no list.
func wantErrno(t *testing.T, what any, l []api.Change, e, want api.Errno) {
	t.Helper()
	if e != want || len(l) != 0 {
		t.Fatalf("%v: %d and %d changes, not %d", what, e, len(l), want)
	}
}

// wantSet looks whether a set has the tuples of a list that is in order.
func wantSet(t *testing.T, what any, s sets.Set, l []api.Tuple) {
	t.Helper()
	if s.Len() != len(l) || !slices.Equal(s.List(), l) {
		t.Fatalf("%v: %+v, not %+v", what, s.List(), l)
	}
}

// faultOf says what is wrong with a list.
func faultOf(l []api.Change) api.Errno {
	if len(l) > 4096 {
		return api.ErrLimit
	}
	if slices.ContainsFunc(l, func(c api.Change) bool { return !valid(c.Tuple) }) {
		return api.ErrName
	}
	return api.OK
}

// keys returns the tuples of a map, in order.
func keys(m map[api.Tuple]bool) []api.Tuple {
	var out []api.Tuple
	for t := range m {
		out = append(out, t)
	}
	slices.SortFunc(out, compare)
	return out
}

// normalOf says what the normal form of a list is: a map keeps the last change of each tuple.
func normalOf(l []api.Change) []api.Change {
	last := map[api.Tuple]bool{}
	for _, c := range l {
		last[c.Tuple] = c.Drop
	}
	return each(keys(last), func(t api.Tuple) api.Change { return api.Change{Tuple: t, Drop: last[t]} })
}

// after says which tuples there are after a list of changes, and whether that is possible.
func after(start []api.Tuple, l []api.Change) ([]api.Tuple, api.Errno) {
	if e := faultOf(l); e != api.OK {
		return nil, e
	}
	in := map[api.Tuple]bool{}
	for _, t := range start {
		in[t] = true
	}
	for _, c := range l {
		if c.Drop {
			delete(in, c.Tuple)
		} else {
			in[c.Tuple] = true
		}
		if len(in) > 4096 {
			return nil, api.ErrLimit
		}
	}
	return keys(in), api.OK
}

// deltaOf says what the delta from some tuples to others is.
func deltaOf(from, to []api.Tuple) []api.Change {
	change := map[api.Tuple]bool{}
	for _, t := range to {
		change[t] = false
	}
	for _, t := range from {
		if _, stays := change[t]; stays {
			delete(change, t)
		} else {
			change[t] = true
		}
	}
	return each(keys(change), func(t api.Tuple) api.Change { return api.Change{Tuple: t, Drop: change[t]} })
}

// opposite returns a list with each Drop turned round.
func opposite(l []api.Change) []api.Change {
	var out []api.Change
	for _, c := range l {
		out = append(out, api.Change{Tuple: c.Tuple, Drop: !c.Drop})
	}
	return out
}

// The tests themselves: the universe is in order, and not in that of its texts.
func TestUniverse(t *testing.T) {
	var texts []string
	for _, x := range universe {
		if !valid(x) {
			t.Error(x)
		}
		texts = append(texts, tuples.Text(x))
	}
	if !slices.IsSortedFunc(universe, compare) || slices.IsSorted(texts) {
		t.Error(texts)
	}
	if n := len(lists(both(universe[:2]), 3)); n != 1+4+16+64 {
		t.Error(n)
	}
	for _, x := range wrong() {
		if valid(x) {
			t.Error(x)
		}
	}
}

// strange has changes of tuples that are valid, and of such that are not.
func strange() []api.Change {
	return slices.Concat(both(universe[2:4]), both([]api.Tuple{{}, build([6]string{"a", "x", "r", "u", "a", "M"})}))
}

// P7.1: all lists of up to four changes, of tuples that are valid or not.
func TestCheckAll(t *testing.T) {
	for _, l := range lists(strange(), 4) {
		if e := Check(l); e != faultOf(l) {
			t.Fatalf("%s: %d", short(l), e)
		}
	}
}

// P7.1: each kind of tuples that are not valid, put in or dropped, alone and among others; and names of the greatest length.
func TestCheckNames(t *testing.T) {
	a, b := put(universe[0]), drop(universe[1])
	for _, c := range both(wrong()) {
		for _, l := range [][]api.Change{{c}, {a, c}, {c, a}, {a, b, c}, {b, c, a}, {c, c}} {
			if e := Check(l); e != api.ErrName {
				t.Fatalf("%.99s: %d", short(l), e)
			}
		}
	}
	longest := strings.Repeat("z", 16)
	l := both(of(longest+":"+longest+"#"+longest+"@"+longest+":"+longest+"#"+longest, "0:0#0@0:0"))
	if e := Check(l); e != api.OK {
		t.Error(e)
	}
	if e := Check(nil); e != api.OK {
		t.Error(e)
	}
	if e := Check([]api.Change{}); e != api.OK {
		t.Error(e)
	}
}

// longLists returns lists around the limit: of different tuples, of one tuple, and with one that is not valid at each place that matters.
func longLists() [][]api.Change {
	var out [][]api.Change
	l := each(numbers(0, 5000*3, 3), put)
	one := slices.Repeat([]api.Change{put(universe[0]), drop(universe[0])}, 2500)
	for _, n := range []int{4094, 4095, 4096, 4097, 4098, 5000} {
		out = append(out, l[:n], opposite(l[:n]), one[:n])
		for _, at := range []int{0, 1, n / 2, 4094, 4095, 4096, n - 1} {
			for _, bad := range []api.Change{put(api.Tuple{}), drop(api.Tuple{})} {
				if at < n {
					other := slices.Clone(l[:n])
					other[at] = bad
					out = append(out, other)
				}
			}
		}
	}
	return append(out, slices.Repeat([]api.Change{{}}, 4096), slices.Repeat([]api.Change{{}}, 4097), slices.Repeat(l, 20))
}

// P7.1, P7.2, P7.3, P7.4: 4096 changes are possible, 4097 are too many: also if they are of one tuple, make no difference, or are not valid.
func TestLimitOfLists(t *testing.T) {
	seen := map[api.Errno]int{}
	for _, l := range longLists() {
		fault := faultOf(l)
		seen[fault]++
		if e := Check(l); e != fault {
			t.Fatalf("Check: %s: %d, not %d", short(l), e, fault)
		}
		got, e := Normal(l)
		s, eSet := Apply(sets.Set{}, l)
		undo, eUndo := Invert(sets.Set{}, l)
		if fault != api.OK {
			wantErrno(t, "Normal", got, e, fault)
			wantErrno(t, "Invert", undo, eUndo, fault)
			if eSet != fault || s.Len() != 0 {
				t.Fatalf("Apply: %s: %d, %d tuples", short(l), eSet, s.Len())
			}
			continue
		}
		if e != api.OK || eSet != api.OK || eUndo != api.OK {
			t.Fatalf("%s: %d, %d, %d", short(l), e, eSet, eUndo)
		}
		want(t, "Normal", got, normalOf(l))
		end, _ := after(nil, l)
		wantSet(t, "Apply", s, end)
		want(t, "Invert", undo, each(end, drop))
	}
	if seen[api.OK] < 6 || seen[api.ErrLimit] < 6 || seen[api.ErrName] < 6 {
		t.Error(seen)
	}
}

// P7.1: Is takes any lists: all lists of up to four changes, of tuples that are valid or not.
func TestIsAll(t *testing.T) {
	few := append(strange(), both(universe[:1])...)
	for _, l := range lists(few, 4) {
		if ascends(l) != Is(l) {
			t.Fatalf("%s: %t", short(l), Is(l))
		}
	}
}

// ascends says field by field whether the tuples of a list strictly ascend.
func ascends(l []api.Change) bool {
	for i := range l {
		for j := range i {
			if compare(l[j].Tuple, l[i].Tuple) >= 0 {
				return false
			}
		}
	}
	return true
}

// P7.1: Is of the subsets of the universe, in order and with two changes in each other's place, or one twice.
func TestIsSubsets(t *testing.T) {
	for bits := range 1 << len(universe) {
		l := each(subset(universe, bits), put)
		for i := range l {
			l[i].Drop = (bits+i)%3 == 0
		}
		if !Is(l) {
			t.Fatalf("%s: not normal", short(l))
		}
		for i := range l {
			for j := range i {
				other := slices.Clone(l)
				other[i], other[j] = other[j], other[i]
				if Is(other) {
					t.Fatalf("%s: normal", short(other))
				}
				other = slices.Clone(l)
				other[i].Tuple = other[j].Tuple
				if Is(other) {
					t.Fatalf("%s: normal", short(other))
				}
			}
		}
	}
}

// P7.1: Is of lists that are longer than a limit, and where just one pair of neighbours is wrong.
func TestIsOfMany(t *testing.T) {
	for _, n := range []int{2, 4096, 4097, 20000} {
		l := each(numbers(0, n, 1), drop)
		if !Is(l) {
			t.Fatalf("%d: not normal", n)
		}
		for _, at := range []int{1, n / 2, n - 1} {
			other := slices.Clone(l)
			other[at] = put(other[at-1].Tuple)
			if Is(other) {
				t.Fatalf("%d: equal tuples at %d", n, at)
			}
			other[at], other[at-1] = l[at-1], l[at]
			if Is(other) {
				t.Fatalf("%d: descends at %d", n, at)
			}
		}
	}
}

// P7.2: all lists of up to five changes of three tuples, and of up to four of tuples that are valid or not.
func TestNormalAll(t *testing.T) {
	for _, l := range slices.Concat(lists(both(universe[1:4]), 5), lists(strange(), 4)) {
		got, e := Normal(l)
		if fault := faultOf(l); fault != api.OK {
			wantErrno(t, short(l), got, e, fault)
			continue
		}
		if e != api.OK {
			t.Fatalf("%s: %d", short(l), e)
		}
		want(t, short(l), got, normalOf(l))
		if !Is(got) {
			t.Fatalf("%s: %s is not normal", short(l), short(got))
		}
		again, _ := Normal(got)
		want(t, short(got), again, got)
	}
}

// shuffled returns n changes out of the tuples of a list, put in and dropped at random.
func shuffled(r *rand.Rand, all []api.Tuple, n int) []api.Change {
	var l []api.Change
	for range n {
		l = append(l, api.Change{Tuple: all[r.Intn(len(all))], Drop: r.Intn(2) == 0})
	}
	return l
}

// P7.2: long lists in any order, with one tuple of many, with few tuples often, and with each tuple once: the last change of each tuple stays.
func TestNormalOfMany(t *testing.T) {
	r := rand.New(rand.NewSource(7))
	for _, n := range []int{11, 12, 13, 50, 200, 1000, 4096} {
		for _, k := range []int{1, 2, 5, 100, n, 10 * n} {
			l := shuffled(r, numbers(0, k*7, 7), n)
			got, e := Normal(l)
			if e != api.OK {
				t.Fatal(n, k, e)
			}
			want(t, []int{n, k}, got, normalOf(l))
		}
	}
	l := each(numbers(0, 4096, 1), put)
	got, _ := Normal(l)
	want(t, "in order", got, l)
	down := slices.Clone(l)
	slices.Reverse(down)
	got, _ = Normal(down)
	want(t, "the last one first", got, l)
	got, _ = Normal(slices.Concat(down[:2048], opposite(l[2048:])))
	want(t, "each twice", got, opposite(l[2048:]))
}

// P7.2: all pairs of lists of up to three changes of two tuples, and of up to two of tuples that are valid or not.
func TestComposeAll(t *testing.T) {
	for _, all := range [][][]api.Change{lists(both(universe[3:5]), 3), lists(strange(), 2)} {
		for _, a := range all {
			for _, b := range all {
				checkCompose(t, a, b)
			}
		}
	}
}

// checkCompose looks at what Compose returns for two lists.
func checkCompose(t *testing.T, a, b []api.Change) {
	t.Helper()
	what := short(a) + ", then " + short(b)
	got, e := Compose(a, b)
	fault := faultOf(a)
	if fault == api.OK {
		fault = faultOf(b)
	}
	list := normalOf(slices.Concat(a, b))
	if fault == api.OK && len(list) > 4096 {
		fault = api.ErrLimit
	}
	if fault != api.OK {
		wantErrno(t, what, got, e, fault)
		return
	}
	if e != api.OK {
		t.Fatalf("%s: %d", what, e)
	}
	want(t, what, got, list)
}

// P7.2: the first list, the second one, or only both together are at fault or too long.
func TestComposeErrors(t *testing.T) {
	l := each(numbers(0, 8192, 1), put)
	bad := []api.Change{put(l[0].Tuple), drop(api.Tuple{})}
	badAndLong := slices.Concat(bad, l[:4095])
	for _, x := range []struct {
		what string
		a, b []api.Change
		want api.Errno
	}{
		{"both short", l[:1], l[1:2], api.OK},
		{"no list", nil, nil, api.OK},
		{"the first one is too long", l[:4097], nil, api.ErrLimit},
		{"the second one is too long", nil, l[:4097], api.ErrLimit},
		{"both are too long", l[:4097], l[:4097], api.ErrLimit},
		{"the first one has a wrong tuple", bad, nil, api.ErrName},
		{"the second one has a wrong tuple", nil, bad, api.ErrName},
		{"both have", bad, bad, api.ErrName},
		{"too long, then wrong", l[:4097], bad, api.ErrLimit},
		{"wrong, then too long", bad, l[:4097], api.ErrName},
		{"wrong and too long, then right", badAndLong, l[:1], api.ErrLimit},
		{"right, then wrong and too long", l[:1], badAndLong, api.ErrLimit},
		{"wrong, then wrong and too long", bad, badAndLong, api.ErrName},
		{"wrong and too long, then wrong", badAndLong, bad, api.ErrLimit},
		{"4096, then none", l[:4096], nil, api.OK},
		{"none, then 4096", nil, l[:4096], api.OK},
		{"2048, then 2048 others", l[:2048], l[2048:4096], api.OK},
		{"2048, then 2049 others", l[:2048], l[2048:4097], api.ErrLimit},
		{"4096, then another one", l[:4096], l[4096:4097], api.ErrLimit},
		{"one, then 4096 others", l[:1], l[1:4097], api.ErrLimit},
		{"4096, then one of them", l[:4096], opposite(l[4095:4096]), api.OK},
		{"one, then 4096 with it", opposite(l[:1]), l[:4096], api.OK},
		{"4096, then the same", l[:4096], opposite(l[:4096]), api.OK},
		{"4096, then 4096 others", l[:4096], l[4096:], api.ErrLimit},
		{"4096, then wrong", l[:4096], bad, api.ErrName},
		{"4096, then another one that is wrong", l[:4096], append(slices.Clip(l[5000:5001]), bad...), api.ErrName},
		{"wrong, then 4096", bad, l[:4096], api.ErrName},
		{"4096 with 2048 tuples, then 2048 others", slices.Concat(l[:2048], opposite(l[:2048])), l[2048:4096], api.OK},
		{"4096 with 2048 tuples, then 2049 others", slices.Concat(l[:2048], opposite(l[:2048])), l[2048:4097], api.ErrLimit},
		{"one tuple 4096 times, then 4095 others", slices.Repeat(l[:1], 4096), l[1:4096], api.OK},
		{"one tuple 4096 times, then 4096 others", slices.Repeat(l[:1], 4096), l[1:4097], api.ErrLimit},
	} {
		if _, e := Compose(x.a, x.b); e != x.want {
			t.Fatalf("%s: %d, not %d", x.what, e, x.want)
		}
		checkCompose(t, x.a, x.b)
	}
}

// P7.2: long lists in any order: a change of the second one prevails over all of the first one.
func TestComposeOfMany(t *testing.T) {
	r := rand.New(rand.NewSource(72))
	for _, n := range []int{5, 13, 40, 300, 4096} {
		for _, k := range []int{1, 3, 60, 2000, 4096} {
			all := numbers(0, k*11, 11)
			checkCompose(t, shuffled(r, all, n), shuffled(r, all, n))
			checkCompose(t, shuffled(r, all, n), shuffled(r, all, 1))
			checkCompose(t, shuffled(r, all, 1), shuffled(r, all, n))
		}
	}
}

// checkApply looks at what Apply and Invert return for a list, and whether the set stays.
func checkApply(t *testing.T, s sets.Set, start []api.Tuple, l []api.Change) {
	t.Helper()
	got, e := Apply(s, l)
	undo, eUndo := Invert(s, l)
	end, fault := after(start, l)
	wantSet(t, "the set ahead of the list", s, start)
	if fault != api.OK {
		wantErrno(t, short(l), undo, eUndo, fault)
		if e != fault || got.Len() != 0 || len(got.List()) != 0 {
			t.Fatalf("%s: %d and a set of %d, not %d", short(l), e, got.Len(), fault)
		}
		return
	}
	if e != api.OK || eUndo != api.OK {
		t.Fatalf("%s: %d, %d", short(l), e, eUndo)
	}
	wantSet(t, short(l), got, end)
	want(t, short(l), undo, deltaOf(end, start))
	// The list that undoes another one is in order, too, so it may have no room on the way.
	back, e := Apply(got, undo)
	again, room := after(end, undo)
	if !Is(undo) || e != room || room == api.OK && !sets.Same(back, s) {
		t.Fatalf("%s, then %s: %d, not %d", short(l), short(undo), e, room)
	}
	wantSet(t, "the set once more", back, again)
	wantSet(t, "the set behind the list", got, end)
}

// P7.3, P7.4, P7.6: all lists of up to four changes of three tuples, in all sets of four.
func TestApplyAll(t *testing.T) {
	all := lists(both(universe[:3]), 4)
	for bits := range 1 << 4 {
		start := subset(universe[:4], bits)
		s := must(t, start)
		for _, l := range all {
			checkApply(t, s, start, l)
		}
	}
}

// P7.3, P7.4: lists of tuples that are valid or not, in sets of no, some and 4096 tuples: a wrong tuple comes ahead of what has no room.
func TestApplyNames(t *testing.T) {
	full := numbers(0, 4096, 1)
	for _, start := range [][]api.Tuple{nil, universe[2:3], universe} {
		s := must(t, start)
		for _, l := range lists(strange(), 3) {
			checkApply(t, s, start, l)
		}
	}
	s := must(t, full)
	for _, c := range both(wrong()) {
		for _, l := range [][]api.Change{{c}, {put(universe[0]), c}, {c, put(universe[0])}, {drop(full[0]), c}, {put(full[0]), put(universe[0]), drop(full[0]), c}} {
			got, e := Apply(s, l)
			undo, eUndo := Invert(s, l)
			if e != api.ErrName || got.Len() != 0 || len(undo) != 0 || eUndo != api.ErrName {
				t.Fatalf("%.99s: %d and a set of %d, %d and %d changes", short(l), e, got.Len(), eUndo, len(undo))
			}
		}
	}
	wantSet(t, "the set of 4096", s, full)
}

// P7.3, P7.4: at 4096 tuples, each change on the way has to have room: also where the list would end below the limit.
func TestApplyLimit(t *testing.T) {
	all := numbers(0, 4100, 1)
	in, in2, out, out2 := all[0], all[4000], all[4096], all[4097]
	for _, x := range []struct {
		what string
		n    int // tuples of the set
		l    []api.Change
		want api.Errno
	}{
		{"no change", 4096, nil, api.OK},
		{"one that is there", 4096, []api.Change{put(in)}, api.OK},
		{"one that is not there", 4096, []api.Change{put(out)}, api.ErrLimit},
		{"drop one that is not there", 4096, []api.Change{drop(out)}, api.OK},
		{"drop one that is not there, then put it in", 4096, []api.Change{drop(out), put(out)}, api.ErrLimit},
		{"drop, then put in", 4096, []api.Change{drop(in), put(out)}, api.OK},
		{"put in, then drop", 4096, []api.Change{put(out), drop(in)}, api.ErrLimit},
		{"put in, then drop the same", 4096, []api.Change{put(out), drop(out)}, api.ErrLimit},
		{"put in, then drop much", 4096, slices.Concat([]api.Change{put(out)}, each(all[:1000], drop)), api.ErrLimit},
		{"drop one, put in two, drop another one", 4096, []api.Change{drop(in), put(out), put(out2), drop(in2)}, api.ErrLimit},
		{"drop two, put in two", 4096, []api.Change{drop(in), drop(in2), put(out), put(out2)}, api.OK},
		{"drop and put in by turns", 4096, []api.Change{drop(in), put(out), drop(in2), put(out2)}, api.OK},
		{"drop, put in again, and another one", 4096, []api.Change{drop(in), put(in), put(out)}, api.ErrLimit},
		{"room for one", 4095, []api.Change{put(out), put(in), put(out)}, api.OK},
		{"room for one of two", 4095, []api.Change{put(out), put(out2)}, api.ErrLimit},
		{"room for one of two, then dropped", 4095, []api.Change{put(out), put(out2), drop(out), drop(out2)}, api.ErrLimit},
		{"one after the other", 4095, []api.Change{put(out), drop(out), put(out2)}, api.OK},
		{"the zero Set becomes full", 0, each(all[:4096], put), api.OK},
		{"one is there, another 4096", 1, each(all[1:4097], put), api.ErrLimit},
		{"one is there, and among 4096", 1, each(all[:4096], put), api.OK},
		{"one is there, another 4095", 1, each(all[1:4096], put), api.OK},
		{"all go", 4096, each(all[:4096], drop), api.OK},
		{"4097 drops", 4096, each(all[:4097], drop), api.ErrLimit},
		{"4096 that are there", 4096, each(all[:4096], put), api.OK},
		{"2048 go, 2048 others come", 4096, append(each(all[:2048], drop), each(numbers(5000, 7048, 1), put)...), api.OK},
		{"2047 go, 2048 others come", 4096, append(each(all[:2047], drop), each(numbers(5000, 7048, 1), put)...), api.ErrLimit},
	} {
		start := all[:x.n]
		if _, e := after(start, x.l); e != x.want {
			t.Fatalf("%s: %d", x.what, e)
		}
		if _, e := Apply(must(t, start), x.l); e != x.want {
			t.Fatalf("%s: %d, not %d", x.what, e, x.want)
		}
		checkApply(t, must(t, start), start, x.l)
	}
}

// P7.3, P7.4: the zero Set, Of of no tuples, and a set that has become empty; and no changes.
func TestEmpty(t *testing.T) {
	emptied, _ := Apply(must(t, universe), each(universe, drop))
	for _, s := range []sets.Set{{}, must(t, nil), emptied} {
		for _, l := range lists(both(universe[:2]), 3) {
			checkApply(t, s, nil, l)
		}
		if d := Between(s, sets.Set{}); len(d) != 0 {
			t.Error(short(d))
		}
		want(t, "all come", Between(s, must(t, universe)), each(universe, put))
		want(t, "all go", Between(must(t, universe), s), each(universe, drop))
	}
	for _, none := range [][]api.Change{nil, {}} {
		for _, start := range [][]api.Tuple{nil, universe} {
			checkApply(t, must(t, start), start, none)
		}
		got, e := Normal(none)
		want(t, "Normal", got, nil)
		if e != api.OK || !Is(none) || !Is(got) {
			t.Error(e)
		}
		checkCompose(t, none, none)
	}
}

// P7.4: only what makes a difference is undone, in order, each tuple once.
func TestInvertOfMany(t *testing.T) {
	r := rand.New(rand.NewSource(74))
	all := numbers(0, 600*13, 13)
	for _, n := range []int{1, 12, 13, 100, 1000, 4096} {
		start := subsetOf(r, all)
		checkApply(t, must(t, start), start, shuffled(r, all, n))
	}
	s := must(t, all)
	undo, e := Invert(s, each(all, put))
	if e != api.OK || len(undo) != 0 {
		t.Error(e, short(undo))
	}
	undo, _ = Invert(s, both(all))
	want(t, "all go", undo, each(all, put))
	undo, _ = Invert(s, opposite(both(all)))
	want(t, "all go, and come again", undo, nil)
}

// subsetOf returns about half of a list.
func subsetOf(r *rand.Rand, all []api.Tuple) []api.Tuple {
	return slices.DeleteFunc(slices.Clone(all), func(api.Tuple) bool { return r.Intn(2) == 0 })
}

// P7.5, P7.6: all pairs of subsets of the universe, there and back.
func TestBetweenAll(t *testing.T) {
	var all []sets.Set
	for bits := range 1 << len(universe) {
		all = append(all, must(t, subset(universe, bits)))
	}
	for i, a := range all {
		for j, b := range all {
			there, back := Between(a, b), Between(b, a)
			want(t, []int{i, j}, there, deltaOf(subset(universe, i), subset(universe, j)))
			want(t, []int{j, i}, back, slices.Clip(opposite(there)))
			if !Is(there) || Check(there) != api.OK || (len(there) == 0) != sets.Same(a, b) {
				t.Fatalf("%b, %b: %s", i, j, short(there))
			}
			end, e := Apply(a, there)
			if e != api.OK || !sets.Same(end, b) {
				t.Fatalf("%b, %b: %d, %+v", i, j, e, end.List())
			}
		}
	}
	for i, s := range all {
		wantSet(t, i, s, subset(universe, i))
	}
}

// P7.5: the same tuples, however a set was made.
func TestBetweenSame(t *testing.T) {
	down := slices.Clone(universe)
	slices.Reverse(down)
	grown, _ := Apply(sets.Set{}, each(down, put))
	shrunk, _ := Apply(must(t, append(numbers(0, 300, 1), universe...)), each(numbers(0, 300, 1), drop))
	same := []sets.Set{must(t, universe), must(t, down), grown, shrunk}
	for i, a := range same {
		for j, b := range same {
			want(t, []int{i, j}, Between(a, b), nil)
		}
	}
	full := numbers(0, 4096, 1)
	want(t, "4096", Between(must(t, full), must(t, full)), nil)
}

// P7.5: sets of many tuples: one that differs at each place that matters, every other one, and none in common.
func TestBetweenOfMany(t *testing.T) {
	l := numbers(0, 8192, 1)
	s := must(t, l[:4096])
	for _, i := range []int{0, 1, 2047, 2048, 4094, 4095} {
		less, _ := s.With(drop(l[i]))
		want(t, i, Between(s, less), []api.Change{drop(l[i])})
		want(t, i, Between(less, s), []api.Change{put(l[i])})
		other, _ := less.With(put(l[4096+i]))
		want(t, i, Between(s, other), []api.Change{drop(l[i]), put(l[4096+i])})
		want(t, i, Between(other, s), []api.Change{put(l[i]), drop(l[4096+i])})
	}
	for _, x := range [][2][]api.Tuple{
		{l[:4096], l[4096:]},
		{numbers(0, 8192, 2), numbers(1, 8192, 2)},
		{numbers(0, 8190, 2), numbers(0, 12285, 3)},
	} {
		a, b := must(t, x[0]), must(t, x[1])
		want(t, "there", Between(a, b), deltaOf(x[0], x[1]))
		want(t, "back", Between(b, a), deltaOf(x[1], x[0]))
	}
	if n := len(Between(s, must(t, l[4096:]))); n != 8192 {
		t.Errorf("%d changes between two sets of 4096 others", n)
	}
}

// P7.6: applying the normal form does what applying the list does; and so does the composed list for two of them.
func TestNormalApplies(t *testing.T) {
	all := lists(both(universe[:2]), 3)
	for bits := range 1 << 3 {
		s := must(t, subset(universe[:3], bits))
		for _, a := range all {
			mid, _ := Apply(s, a)
			short1, _ := Normal(a)
			if end, e := Apply(s, short1); e != api.OK || !sets.Same(end, mid) {
				t.Fatalf("%s: %d", short(a), e)
			}
			for _, b := range all {
				end, _ := Apply(mid, b)
				l, _ := Compose(a, b)
				if one, e := Apply(s, l); e != api.OK || !sets.Same(one, end) {
					t.Fatalf("%s, then %s: %d", short(a), short(b), e)
				}
				d := Between(s, end)
				if one, e := Apply(s, d); e != api.OK || !sets.Same(one, end) {
					t.Fatalf("%s: %d", short(d), e)
				}
			}
		}
	}
}

// P7.6: where there is no room on the way, a list may be possible and its normal form not, and the other way round; and a delta, or what undoes a list, may have no room.
func TestNormalWithoutRoom(t *testing.T) {
	full := numbers(1, 4097, 1)
	s := must(t, full)
	least, greatest := number(0), full[4095]
	for _, x := range []struct {
		l             []api.Change
		list, shorter api.Errno
	}{
		{[]api.Change{put(least), drop(least)}, api.ErrLimit, api.OK},
		{[]api.Change{drop(greatest), put(least)}, api.OK, api.ErrLimit},
		{[]api.Change{put(number(9000)), drop(full[0])}, api.ErrLimit, api.OK},
		{[]api.Change{put(least)}, api.ErrLimit, api.ErrLimit},
	} {
		_, e := Apply(s, x.l)
		l, eNormal := Normal(x.l)
		_, eShorter := Apply(s, l)
		if e != x.list || eNormal != api.OK || eShorter != x.shorter {
			t.Errorf("%s: %d, %d, %d", short(x.l), e, eNormal, eShorter)
		}
	}
	to, _ := Apply(s, []api.Change{drop(greatest), put(least)})
	there, back := Between(s, to), Between(to, s)
	for _, x := range []struct {
		l    []api.Change
		room api.Errno
	}{
		{[]api.Change{drop(greatest), put(least)}, api.OK},
		{[]api.Change{drop(full[0]), put(number(9000))}, api.ErrLimit},
	} {
		end, e := Apply(s, x.l)
		undo, eUndo := Invert(s, x.l)
		start, eBack := Apply(end, undo)
		want(t, short(x.l), undo, normalOf(opposite(x.l)))
		if e != api.OK || eUndo != api.OK || eBack != x.room || eBack == api.OK && !sets.Same(start, s) {
			t.Errorf("%s: %d, %d, %d", short(x.l), e, eUndo, eBack)
		}
	}
	want(t, "there", there, []api.Change{put(least), drop(greatest)})
	want(t, "back", back, []api.Change{drop(least), put(greatest)})
	if _, e := Apply(s, there); e != api.ErrLimit {
		t.Error(e)
	}
	if end, e := Apply(to, back); e != api.OK || !sets.Same(end, s) {
		t.Error(e)
	}
}

// P7.6: Compose is associative: all triples of lists of up to two changes of two tuples, and some long ones.
func TestComposeAssociative(t *testing.T) {
	all := lists(both(universe[4:6]), 2)
	r := rand.New(rand.NewSource(76))
	few := numbers(0, 700*3, 3)
	for _, n := range []int{9, 40, 700, 4096} {
		triple := [3][]api.Change{shuffled(r, few, n), shuffled(r, few, n), shuffled(r, few, n)}
		checkTriple(t, triple[0], triple[1], triple[2])
	}
	for _, a := range all {
		for _, b := range all {
			for _, c := range all {
				checkTriple(t, a, b, c)
			}
		}
	}
}

// checkTriple composes three lists from the left and from the right.
func checkTriple(t *testing.T, a, b, c []api.Change) {
	t.Helper()
	ab, e1 := Compose(a, b)
	left, e2 := Compose(ab, c)
	bc, e3 := Compose(b, c)
	right, e4 := Compose(a, bc)
	if e1 != api.OK || e2 != api.OK || e3 != api.OK || e4 != api.OK {
		t.Fatal(e1, e2, e3, e4)
	}
	want(t, "from the left", left, right)
	want(t, "at once", left, normalOf(slices.Concat(a, b, c)))
}

// calls returns the results of all calls that take lists and return one, each with a name.
func calls(s, other sets.Set, a, b []api.Change) map[string][]api.Change {
	out := map[string][]api.Change{}
	out["Normal"], _ = Normal(a)
	out["Compose"], _ = Compose(a, b)
	out["Compose with none"], _ = Compose(a, nil)
	out["Compose of none"], _ = Compose(nil, a)
	out["Compose with itself"], _ = Compose(a, a)
	out["Invert"], _ = Invert(s, a)
	out["Between"] = Between(s, other)
	return out
}

// R4: lists that are passed are neither modified nor kept, also what is behind them; sets that are passed stay.
func TestArgumentsStay(t *testing.T) {
	r := rand.New(rand.NewSource(4))
	start, end := universe[:4], universe[2:]
	s, other := must(t, start), must(t, end)
	inOrder := each(universe, drop)
	for _, a := range [][]api.Change{both(universe), opposite(both(universe)), inOrder, shuffled(r, universe, 50), {{}}, {put(universe[0]), {}}} {
		b := shuffled(r, universe, 9)
		mark := put(number(7))
		wholeA, wholeB := slices.Concat(a, []api.Change{mark, mark, mark}), slices.Concat(b, []api.Change{mark})
		beforeA, beforeB := slices.Clone(wholeA), slices.Clone(wholeB)
		x, y := wholeA[:len(a)], wholeB[:len(b)]
		first := calls(s, other, x, y)
		set, e := Apply(s, x)
		list := set.List()
		_, _ = Check(x), Is(x)
		if !slices.Equal(wholeA, beforeA) || !slices.Equal(wholeB, beforeB) {
			t.Fatalf("%s: modified", short(a))
		}
		again := calls(s, other, a, b)
		clear(wholeA)
		clear(wholeB)
		for name, l := range first {
			want(t, name, l, again[name])
		}
		if e == api.OK {
			wantSet(t, "Apply", set, list)
		}
		wantSet(t, "the set", s, start)
		wantSet(t, "the other set", other, end)
	}
}

// R4: what a call returns is new memory: neither a change of it, nor of what is passed, is seen in another result.
func TestResultsAreNew(t *testing.T) {
	s, other := must(t, universe[:4]), must(t, universe[2:])
	a, b := each(universe, drop), each(universe[:3], put)
	mark := put(number(7))
	first, second := calls(s, other, a, b), calls(s, other, a, b)
	for name, l := range first {
		before := slices.Clone(l)
		if len(l) == 0 {
			t.Fatal(name)
		}
		for i := range l {
			l[i] = mark
		}
		_ = append(l, mark)
		want(t, name, second[name], before)
		want(t, name, calls(s, other, a, b)[name], before)
		want(t, name, slices.Clip(a), slices.Clip(each(universe, drop)))
		want(t, name, slices.Clip(b), slices.Clip(each(universe[:3], put)))
	}
	wantSet(t, "the set", s, universe[:4])
	wantSet(t, "the other set", other, universe[2:])
}

// P7.3, P7.6: lists that are applied to sets out of those that exist already; all of them stay as they are.
func TestSetsStay(t *testing.T) {
	r := rand.New(rand.NewSource(73))
	all := numbers(0, 40*3, 3)
	made, wants := []sets.Set{{}}, [][]api.Tuple{nil}
	for range 400 {
		from := r.Intn(len(made))
		l := shuffled(r, all, r.Intn(9))
		s, e := Apply(made[from], l)
		end, _ := after(wants[from], l)
		undo, _ := Invert(made[from], l)
		want(t, short(l), undo, Between(s, made[from]))
		if e != api.OK {
			t.Fatal(e)
		}
		made, wants = append(made, s), append(wants, end)
	}
	for i, s := range made {
		wantSet(t, i, s, wants[i])
	}
}

// R1: lists of tuples of any strings.
func TestAnyStrings(t *testing.T) {
	odd := []string{"", "\x00", "a", "a\x00", "\xff\xff", "é", "#", strings.Repeat("z", 1<<16)}
	r := rand.New(rand.NewSource(1))
	s := must(t, universe)
	for range 2000 {
		var l []api.Change
		for range r.Intn(4) {
			var f [6]string
			for i := range f {
				f[i] = odd[r.Intn(len(odd))]
			}
			l = append(l, api.Change{Tuple: build(f), Drop: r.Intn(2) == 0})
		}
		if Check(l) != faultOf(l) || Is(l) != ascends(l) {
			t.Fatalf("%d, %t: %.200s", Check(l), Is(l), short(l))
		}
		checkCompose(t, l, nil)
		checkCompose(t, each(universe, put), l)
		checkApply(t, s, universe, l)
	}
}

// The examples of the chapter.
func TestExamples(t *testing.T) {
	l := of("doc:a#viewer@user:x", "doc:a#viewer@user:y", "doc:b#viewer@user:x")
	a, b, c := l[0], l[1], l[2]
	got, e := Normal([]api.Change{put(c), drop(a), put(a), drop(c), put(b)})
	want(t, "Normal", got, []api.Change{put(a), put(b), drop(c)})
	got, e2 := Compose([]api.Change{put(a), drop(b)}, []api.Change{put(b), drop(c)})
	want(t, "Compose", got, []api.Change{put(a), put(b), drop(c)})
	got, e3 := Invert(must(t, l[:2]), []api.Change{put(a), drop(b), put(c), drop(c)})
	want(t, "Invert", got, []api.Change{put(b)})
	want(t, "Between", Between(must(t, l[:2]), must(t, l[1:])), []api.Change{drop(a), put(c)})
	if e != api.OK || e2 != api.OK || e3 != api.OK {
		t.Error(e, e2, e3)
	}
	if !Is([]api.Change{put(a), drop(b)}) || Is([]api.Change{drop(b), put(a)}) {
		t.Error("Is")
	}
	if e := Check([]api.Change{put(api.Tuple{})}); e != api.ErrName {
		t.Error(e)
	}
}
