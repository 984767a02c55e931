package musts

import (
	"math/rand"
	"regexp"
	"slices"
	"strconv"
	"strings"
	"testing"

	"countersign/api"
	"countersign/sets"
	"countersign/tuples"
)

// The functions have the signatures of the chapter.
var (
	_ func([]api.Must) api.Errno                                                   = Check
	_ func([]api.Change) api.Errno                                                 = CheckChanges
	_ func(sets.Set, api.Must) bool                                                = Holds
	_ func(sets.Set, []api.Must) (int, api.Errno)                                  = First
	_ func([]api.Must) bool                                                        = Possible
	_ func(sets.Set, []api.Must, []api.Change) (sets.Set, []api.Change, api.Errno) = Write
)

// build returns the tuple with six fields, be they names or not.
func build(f [6]string) api.Tuple {
	return api.Tuple{
		Goal:    api.Goal{Object: api.Object{Space: f[0], ID: f[1]}, Rel: f[2]},
		Subject: api.Subject{Object: api.Object{Space: f[3], ID: f[4]}, Rel: f[5]},
	}
}

// fieldsOf returns the six fields of a tuple, in their order.
func fieldsOf(t api.Tuple) [6]string {
	g, u := t.Goal, t.Subject
	return [6]string{g.Object.Space, g.Object.ID, g.Rel, u.Object.Space, u.Object.ID, u.Rel}
}

// universe is in order; each tuple differs from the one ahead of it in another field.
var universe = []api.Tuple{
	build([6]string{"a", "x", "r", "u", "a", ""}),
	build([6]string{"a", "x", "r", "u", "a", "m"}),
	build([6]string{"a", "x", "r", "u", "a0", ""}),
	build([6]string{"a", "x", "r", "u0", "a", ""}),
	build([6]string{"a", "x", "r0", "u", "a", ""}),
	build([6]string{"a", "x0", "r", "u", "a", "m"}),
	build([6]string{"a0", "x", "r", "u", "a", ""}),
}

// capital differs from a tuple of the universe in one letter, and is not valid.
var capital = build([6]string{"a", "x", "r", "u", "a", "M"})

var nameForm = regexp.MustCompile(`^[a-z0-9]{1,16}\z`)

// valid says field by field whether a tuple is valid.
func valid(t api.Tuple) bool {
	for i, s := range fieldsOf(t) {
		if !nameForm.MatchString(s) && (i != 5 || s != "") {
			return false
		}
	}
	return true
}

// wrong has tuples of which one field is not valid, or all are not.
func wrong() []api.Tuple {
	out := []api.Tuple{{}, capital, build([6]string{"", "", "", "u", "a", ""}), build([6]string{"a", "x", "r", "", "", ""})}
	for i := range 6 {
		for _, s := range []string{"", "A", "*", "a b", "a\x00", "\xff", "é", "a#", "0123456789abcdef0", strings.Repeat("a", 1<<16)} {
			f := [6]string{"a", "x", "r", "u", "a", "m"}
			f[i] = s
			if i != 5 || s != "" {
				out = append(out, build(f))
			}
		}
	}
	return out
}

// numbers returns valid tuples, in order, for the numbers from one up to another one, both below a million.
func numbers(from, to int) []api.Tuple {
	var l []api.Tuple
	for n := from; n < to; n++ {
		s := strconv.Itoa(1000000 + n)
		l = append(l, build([6]string{"d" + s[1:2], s[2:4], s[4:5], "u", s[5:], ""}))
	}
	return l
}

// there and gone return the musts of a tuple, put and drop its changes.
func there(t api.Tuple) api.Must  { return api.Must{Tuple: t} }
func gone(t api.Tuple) api.Must   { return api.Must{Tuple: t, Not: true} }
func put(t api.Tuple) api.Change  { return api.Change{Tuple: t} }
func drop(t api.Tuple) api.Change { return api.Change{Tuple: t, Drop: true} }

// each returns what some functions return for each tuple of a list.
func each[E any](l []api.Tuple, how ...func(t api.Tuple) E) []E {
	var out []E
	for _, t := range l {
		for _, f := range how {
			out = append(out, f(t))
		}
	}
	return out
}

// lists returns all lists of up to some elements, out of a list.
func lists[E any](all []E, most int) [][]E {
	out := [][]E{nil}
	for from := 0; most > 0; most-- {
		to := len(out)
		for _, l := range out[from:to] {
			for _, x := range all {
				out = append(out, append(slices.Clip(l), x))
			}
		}
		from = to
	}
	return out
}

// subset returns the tuples of a list whose bits are set.
func subset(all []api.Tuple, bits int) []api.Tuple {
	var l []api.Tuple
	for i, t := range all {
		if bits>>i&1 == 1 {
			l = append(l, t)
		}
	}
	return l
}

// with returns a list with another element at a place.
func with[E any](l []E, at int, x E) []E {
	l = slices.Clone(l)
	l[at] = x
	return l
}

// set returns the set of some tuples.
func set(t *testing.T, l []api.Tuple) sets.Set {
	t.Helper()
	s, e := sets.Of(l)
	if e != api.OK {
		t.Fatalf("sets.Of: %d", e)
	}
	return s
}

// short shows lists as text, and of long ones their beginning.
func short(l []api.Must, changes []api.Change) string {
	var b strings.Builder
	for _, m := range l[:min(len(l), 8)] {
		b.WriteString(map[bool]string{false: " is ", true: " not "}[m.Not] + tuples.Text(m.Tuple))
	}
	b.WriteString(" (" + strconv.Itoa(len(l)) + " musts)")
	for _, c := range changes[:min(len(changes), 8)] {
		b.WriteString(map[bool]string{false: " +", true: " -"}[c.Drop] + tuples.Text(c.Tuple))
	}
	return b.String() + " (" + strconv.Itoa(len(changes)) + " changes)"
}

// wantSet looks whether a set has the tuples of a list that is in order.
func wantSet(t *testing.T, what any, s sets.Set, l []api.Tuple) {
	t.Helper()
	if s.Len() != len(l) || !slices.Equal(s.List(), l) {
		t.Fatalf("%v: %d tuples, not %d: %+v", what, s.Len(), len(l), s.List())
	}
}

// faultOf says what is wrong with a list that has some tuples.
func faultOf(l []api.Tuple) api.Errno {
	if len(l) > 32 {
		return api.ErrLimit
	}
	for _, t := range l {
		if !valid(t) {
			return api.ErrName
		}
	}
	return api.OK
}

// mustsFault and changesFault say what is wrong with a list.
func mustsFault(l []api.Must) api.Errno {
	var all []api.Tuple
	for _, m := range l {
		all = append(all, m.Tuple)
	}
	return faultOf(all)
}

func changesFault(l []api.Change) api.Errno {
	var all []api.Tuple
	for _, c := range l {
		all = append(all, c.Tuple)
	}
	return faultOf(all)
}

// holdsIn says whether a must holds in a set of some tuples.
func holdsIn(all []api.Tuple, m api.Must) bool {
	for _, t := range all {
		if t == m.Tuple {
			return !m.Not
		}
	}
	return m.Not
}

// firstOf says which must of a list is the first that does not hold.
func firstOf(all []api.Tuple, l []api.Must) (int, api.Errno) {
	if e := mustsFault(l); e != api.OK {
		return 0, e
	}
	at := slices.IndexFunc(l, func(m api.Must) bool { return !holdsIn(all, m) })
	if at >= 0 {
		return at, api.ErrMust
	}
	return len(l), api.OK
}

// possible says whether all musts of a list hold in a set of some of the valid tuples that it names.
func possible(l []api.Must) bool {
	var all []api.Tuple
	for _, m := range l {
		if valid(m.Tuple) && !slices.Contains(all, m.Tuple) {
			all = append(all, m.Tuple)
		}
	}
	for bits := range 1 << len(all) {
		some := subset(all, bits)
		if !slices.ContainsFunc(l, func(m api.Must) bool { return !holdsIn(some, m) }) {
			return true
		}
	}
	return false
}

// write says what a write makes of some tuples, which changes make a difference, and what is wrong.
func write(start []api.Tuple, l []api.Must, changes []api.Change) (end []api.Tuple, made []api.Change, e api.Errno) {
	if e := mustsFault(l); e != api.OK {
		return nil, nil, e
	}
	if e := changesFault(changes); e != api.OK {
		return nil, nil, e
	}
	if _, e := firstOf(start, l); e != api.OK {
		return nil, nil, e
	}
	in := map[api.Tuple]bool{}
	for _, t := range start {
		in[t] = true
	}
	for _, c := range changes {
		if in[c.Tuple] == c.Drop {
			made = append(made, c)
		}
		if c.Drop {
			delete(in, c.Tuple)
		} else {
			in[c.Tuple] = true
		}
		if len(in) > 4096 {
			return nil, nil, api.ErrLimit
		}
	}
	for t := range in {
		end = append(end, t)
	}
	slices.SortFunc(end, func(a, b api.Tuple) int {
		x, y := fieldsOf(a), fieldsOf(b)
		return slices.Compare(x[:], y[:])
	})
	return end, made, api.OK
}

// checkFirst looks at what First returns for a set of some tuples, at what Holds says of each must, and whether the set stays.
func checkFirst(t *testing.T, s sets.Set, all []api.Tuple, l []api.Must) {
	t.Helper()
	at, e := First(s, l)
	if wantAt, wantErr := firstOf(all, l); at != wantAt || e != wantErr {
		t.Fatalf("%.300s: %d %d, not %d %d", short(l, nil), at, e, wantAt, wantErr)
	}
	for _, m := range l {
		if Holds(s, m) != holdsIn(all, m) {
			t.Fatalf("%.300s: %t", short([]api.Must{m}, nil), Holds(s, m))
		}
	}
	wantSet(t, "the set", s, all)
	if e == api.OK && !Possible(l) {
		t.Fatalf("%s: holds, and is not possible", short(l, nil))
	}
}

// checkWrite looks at what Write returns for a set of some tuples, and whether the set stays.
func checkWrite(t *testing.T, s sets.Set, start []api.Tuple, l []api.Must, changes []api.Change) {
	t.Helper()
	out, made, e := Write(s, l, changes)
	end, wantMade, wantErr := write(start, l, changes)
	if e != wantErr {
		t.Fatalf("%.600s: %d, not %d", short(l, changes), e, wantErr)
	}
	if !slices.Equal(made, wantMade) || cap(made) != len(made) {
		t.Fatalf("%.600s: made %.600s with room for %d", short(l, changes), short(nil, made), cap(made))
	}
	wantSet(t, short(l, changes), out, end)
	wantSet(t, "the set ahead of the write", s, start)
}

// strange has tuples that are valid, and such that are not.
var strange = []api.Tuple{universe[1], universe[4], {}, capital}

// The tests themselves: the universe is in order and valid, what is wrong is not.
func TestUniverse(t *testing.T) {
	for i, x := range universe {
		if !valid(x) || i > 0 && tuples.Compare(universe[i-1], x) >= 0 {
			t.Error(x)
		}
	}
	for _, x := range wrong() {
		if valid(x) {
			t.Error(x)
		}
	}
	if n := len(lists(each(universe[:2], there, gone), 3)); n != 1+4+16+64 {
		t.Error(n)
	}
	if e := faultOf(numbers(0, 32)); e != api.OK {
		t.Error(e)
	}
}

// P8.1: all lists of up to four elements, of tuples that are valid or not.
func TestCheckAll(t *testing.T) {
	for _, l := range lists(each(strange, there, gone), 4) {
		if e := Check(l); e != mustsFault(l) {
			t.Fatalf("%s: %d", short(l, nil), e)
		}
	}
	for _, l := range lists(each(strange, put, drop), 4) {
		if e := CheckChanges(l); e != changesFault(l) {
			t.Fatalf("%s: %d", short(nil, l), e)
		}
	}
}

// P8.1: each kind of tuples that are not valid, at each place of lists of up to 32 elements; and names of the greatest length.
func TestCheckNames(t *testing.T) {
	all := numbers(0, 32)
	for _, bad := range wrong() {
		for _, n := range []int{1, 2, 31, 32} {
			for at := range n {
				l := with(all[:n], at, bad)
				for _, musts := range [][]api.Must{each(l, there), each(l, gone)} {
					if e := Check(musts); e != api.ErrName {
						t.Fatalf("%d of %d: %d", at, n, e)
					}
				}
				for _, changes := range [][]api.Change{each(l, put), each(l, drop)} {
					if e := CheckChanges(changes); e != api.ErrName {
						t.Fatalf("%d of %d: %d", at, n, e)
					}
				}
			}
		}
	}
	z := strings.Repeat("z", 16)
	for _, x := range []api.Tuple{build([6]string{z, z, z, z, z, z}), build([6]string{"0", "0", "0", "0", "0", ""})} {
		if e := Check(each([]api.Tuple{x}, there, gone)); e != api.OK {
			t.Error(x, e)
		}
		if e := CheckChanges(each([]api.Tuple{x}, put, drop)); e != api.OK {
			t.Error(x, e)
		}
	}
}

// long returns lists of tuples around the limit: of different ones, of a single one, and with one that is not valid at each place that matters.
func long() [][]api.Tuple {
	var out [][]api.Tuple
	all := numbers(0, 5000)
	for _, n := range []int{0, 1, 30, 31, 32, 33, 34, 63, 64, 65, 256, 288, 4096, 4128, 5000} {
		out = append(out, all[:n], slices.Repeat(universe[:1], n), make([]api.Tuple, n))
		for _, at := range []int{0, 1, n / 2, 30, 31, 32, n - 1} {
			if at >= 0 && at < n {
				out = append(out, with(all[:n], at, capital))
			}
		}
	}
	return out
}

// P8.1, P8.2, P8.4: 32 elements are possible, 33 are too many: also if they are the same, hold, make no difference, or are not valid.
func TestLimitOfLists(t *testing.T) {
	starts := [][]api.Tuple{nil, numbers(0, 40), universe}
	var made []sets.Set
	for _, l := range starts {
		made = append(made, set(t, l))
	}
	seen := map[api.Errno]int{}
	for _, l := range long() {
		fault := faultOf(l)
		seen[fault]++
		for _, musts := range [][]api.Must{each(l, there), each(l, gone)} {
			if e := Check(musts); e != fault {
				t.Fatalf("%s: %d, not %d", short(musts, nil), e, fault)
			}
			for i, s := range made {
				checkFirst(t, s, starts[i], musts)
				checkWrite(t, s, starts[i], musts, nil)
			}
		}
		for _, changes := range [][]api.Change{each(l, put), each(l, drop)} {
			if e := CheckChanges(changes); e != fault {
				t.Fatalf("%s: %d, not %d", short(nil, changes), e, fault)
			}
			for i, s := range made {
				checkWrite(t, s, starts[i], nil, changes)
			}
		}
	}
	if seen[api.OK] < 9 || seen[api.ErrLimit] < 9 || seen[api.ErrName] < 9 {
		t.Error(seen)
	}
}

// P8.2: each tuple of the universe, and each that is not valid, asked for and asked not to be there, in all sets.
func TestHoldsAll(t *testing.T) {
	for bits := range 1 << len(universe) {
		s := set(t, subset(universe, bits))
		for i, x := range universe {
			in := bits>>i&1 == 1
			if Holds(s, there(x)) != in || Holds(s, gone(x)) == in {
				t.Fatalf("%b: %d", bits, i)
			}
		}
		for _, x := range wrong() {
			if Holds(s, there(x)) || !Holds(s, gone(x)) {
				t.Fatalf("%b: %.200s", bits, tuples.Text(x))
			}
		}
	}
}

// P8.2: sets of none and of 4096 tuples, and a set that has become empty.
func TestHoldsInManyAndNone(t *testing.T) {
	all := numbers(0, 4097)
	full := set(t, all[:4096])
	one := set(t, universe[:1])
	emptied, _ := one.With(drop(universe[0]))
	for i, x := range all {
		if Holds(full, there(x)) != (i < 4096) || Holds(full, gone(x)) != (i == 4096) {
			t.Fatal(i)
		}
		for _, s := range []sets.Set{{}, emptied, one} {
			if Holds(s, there(x)) || !Holds(s, gone(x)) {
				t.Fatal(i)
			}
		}
	}
	if Holds(emptied, there(universe[0])) || !Holds(emptied, gone(universe[0])) || !Holds(one, there(universe[0])) {
		t.Error("the tuple that was dropped")
	}
}

// P8.2, P8.5: all lists of up to four musts of three tuples, and of up to three of tuples that are valid or not, in all sets.
func TestFirstAll(t *testing.T) {
	all := slices.Concat(lists(each(universe[1:4], there, gone), 4), lists(each(strange, there, gone), 3))
	for bits := range 1 << 5 {
		start := subset(universe[:5], bits)
		s := set(t, start)
		for _, l := range all {
			checkFirst(t, s, start, l)
		}
	}
}

// P8.2: one must, two, and all from one on do not hold, at each place of lists of up to 32.
func TestFirstPlaces(t *testing.T) {
	all := numbers(0, 64)
	start := all[:32]
	s := set(t, start)
	right := slices.Concat(each(start[:16], there), each(all[32:48], gone))
	r := rand.New(rand.NewSource(82))
	r.Shuffle(len(right), func(i, j int) { right[i], right[j] = right[j], right[i] })
	for _, n := range []int{0, 1, 2, 3, 31, 32} {
		l := right[:n]
		if at, e := First(s, l); at != n || e != api.OK {
			t.Fatalf("%d: %d %d", n, at, e)
		}
		for i := range n {
			for _, bad := range []api.Must{gone(start[i]), there(all[63])} {
				one := with(l, i, bad)
				if at, e := First(s, one); at != i || e != api.ErrMust {
					t.Fatalf("%d of %d: %d %d", i, n, at, e)
				}
				for j := range n {
					two := with(one, j, there(all[62]))
					if at, e := First(s, two); at != min(i, j) || e != api.ErrMust {
						t.Fatalf("%d, %d of %d: %d %d", i, j, n, at, e)
					}
					// What is not valid comes first, wherever it stands.
					if at, e := First(s, with(one, j, gone(capital))); at != 0 || e != api.ErrName {
						t.Fatalf("%d, %d of %d: %d %d", i, j, n, at, e)
					}
				}
			}
		}
	}
	for at, m := range each(all[32:], there) {
		l := append(slices.Repeat([]api.Must{there(all[0])}, at), slices.Repeat([]api.Must{m}, 32-at)...)
		checkFirst(t, s, start, l)
	}
}

// P8.3: all lists of up to five musts of two tuples, of up to four of three, and of up to four of tuples that are valid or not.
func TestPossibleAll(t *testing.T) {
	all := slices.Concat(lists(each(universe[1:3], there, gone), 5), lists(each(universe[4:], there, gone), 4), lists(each(strange, there, gone), 4))
	seen := map[bool]int{}
	for _, l := range all {
		seen[possible(l)]++
		if Possible(l) != possible(l) {
			t.Fatalf("%s: %t", short(l, nil), Possible(l))
		}
	}
	if seen[true] < 500 || seen[false] < 500 {
		t.Error(seen)
	}
}

// P8.3: tuples that are not valid are in no set: asked for, they are never possible, asked not to be there, they always are.
func TestPossibleNames(t *testing.T) {
	right := slices.Concat(each(numbers(0, 20), there), each(numbers(20, 40), gone))
	for _, bad := range wrong() {
		for at := range right {
			if Possible(with(right, at, there(bad))) || !Possible(with(right, at, gone(bad))) {
				t.Fatalf("%d: %.200s", at, tuples.Text(bad))
			}
		}
		if l := each([]api.Tuple{bad}, gone, there); Possible(l) || Possible(l[1:]) || !Possible(l[:1]) {
			t.Fatalf("%.200s", tuples.Text(bad))
		}
		if l := each([]api.Tuple{bad, bad}, gone); !Possible(l) {
			t.Fatalf("twice: %.200s", tuples.Text(bad))
		}
	}
	if !Possible(each(wrong(), gone)) {
		t.Error("none of them is there")
	}
}

// P8.3: tuples that differ in one field, or by where a field ends, are others.
func TestPossibleNeighbours(t *testing.T) {
	near := slices.Concat(universe, []api.Tuple{
		build([6]string{"a", "xr", "r", "u", "a", ""}), build([6]string{"ax", "r", "r", "u", "a", ""}),
		build([6]string{"u", "a", "m", "a", "x", "r"}), build([6]string{"a", "x", "r", "a", "x", "r"}),
		build([6]string{"a", "x", "ru", "u", "a", ""}), build([6]string{"a", "x", "r", "uu", "a", ""}),
	})
	for i, x := range near {
		for j, y := range near {
			if Possible([]api.Must{there(x), gone(y)}) != (i != j) || Possible([]api.Must{gone(y), there(x)}) != (i != j) {
				t.Fatalf("%s, %s", tuples.Text(x), tuples.Text(y))
			}
		}
	}
}

// P8.3: lists that are longer than a write's, or ask for more tuples than a set may have, with two musts against each other at any places.
func TestPossibleOfMany(t *testing.T) {
	all := numbers(0, 20000)
	for _, n := range []int{1, 31, 32, 33, 4095, 4096, 4097, 20000} {
		for _, l := range [][]api.Must{each(all[:n], there), each(all[:n], gone)} {
			if !Possible(l) || !Possible(slices.Concat(l, l)) {
				t.Fatalf("%d: not possible", n)
			}
			for _, at := range []int{0, n / 2, n - 1} {
				against := api.Must{Tuple: l[at].Tuple, Not: !l[at].Not}
				for _, place := range []int{0, n / 3, n} {
					if Possible(slices.Insert(slices.Clone(l), place, against)) {
						t.Fatalf("%d: possible with %d at %d", n, at, place)
					}
				}
				if !Possible(with(l, at, against)) {
					t.Fatalf("%d: not possible with another one at %d", n, at)
				}
			}
		}
	}
	half := slices.Concat(each(all[:10000], there), each(all[10000:], gone))
	if !Possible(half) || Possible(append(half, gone(all[5000]))) {
		t.Error("half of them are there")
	}
}

// P8.4: all lists of up to two musts and of up to three changes of three tuples, in all sets of four.
func TestWriteAll(t *testing.T) {
	musts := lists(each(universe[:3], there, gone), 2)
	changes := lists(each(universe[:3], put, drop), 3)
	seen := map[api.Errno]int{}
	for bits := range 1 << 4 {
		start := subset(universe[:4], bits)
		s := set(t, start)
		for _, l := range musts {
			for _, c := range changes {
				checkWrite(t, s, start, l, c)
				_, e := firstOf(start, l)
				seen[e]++
			}
		}
	}
	if seen[api.OK] < 1000 || seen[api.ErrMust] < 1000 {
		t.Error(seen)
	}
}

// P8.4: long lists of changes without musts; all that make a difference are made, in order, and no others.
func TestWriteOfMany(t *testing.T) {
	r := rand.New(rand.NewSource(84))
	for _, k := range []int{1, 2, 3, 10, 30, 100} {
		all := numbers(0, k)
		for range 300 {
			start := slices.DeleteFunc(slices.Clone(all), func(api.Tuple) bool { return r.Intn(2) == 0 })
			s := set(t, start)
			var l []api.Must
			var changes []api.Change
			for range r.Intn(4) {
				l = append(l, api.Must{Tuple: all[r.Intn(k)], Not: r.Intn(2) == 0})
			}
			for range r.Intn(33) {
				changes = append(changes, api.Change{Tuple: all[r.Intn(k)], Drop: r.Intn(2) == 0})
			}
			checkWrite(t, s, start, l, changes)
			checkWrite(t, s, start, nil, changes)
		}
	}
}

// P8.4: lists of tuples that are valid or not, in sets of none, one and all.
func TestWriteNames(t *testing.T) {
	musts, changes := lists(each(strange, there, gone), 2), lists(each(strange, put, drop), 2)
	for _, start := range [][]api.Tuple{nil, universe[1:2], universe} {
		s := set(t, start)
		for _, l := range musts {
			for _, c := range changes {
				checkWrite(t, s, start, l, c)
			}
		}
	}
}

// P8.4: the error of the musts, that of the changes, a must that does not hold, no room: in this order.
func TestWriteErrors(t *testing.T) {
	all := numbers(0, 5000)
	start := all[:4096]
	s := set(t, start)
	holds := []api.Must{there(all[0]), gone(all[4999])}
	fails := []api.Must{there(all[0]), there(all[4999])}
	mustNames := []api.Must{there(all[4999]), gone(capital)}
	mustMany := with(each(all[:33], there), 3, there(capital))
	fits := []api.Change{drop(all[0]), put(all[4096])}
	noRoom := []api.Change{put(all[4096]), drop(all[0])}
	names := []api.Change{put(all[4096]), drop(capital)}
	many := with(each(all[4090:4123], put), 32, put(api.Tuple{}))
	for _, x := range []struct {
		what    string
		musts   []api.Must
		changes []api.Change
		want    api.Errno
	}{
		{"all is right", holds, fits, api.OK},
		{"no room", holds, noRoom, api.ErrLimit},
		{"a must fails", fails, fits, api.ErrMust},
		{"a must fails, no room", fails, noRoom, api.ErrMust},
		{"a must fails, no changes", fails, nil, api.ErrMust},
		{"wrong changes", holds, names, api.ErrName},
		{"wrong changes, no musts", nil, names, api.ErrName},
		{"wrong changes, a must fails", fails, names, api.ErrName},
		{"too many changes", holds, many, api.ErrLimit},
		{"too many changes, no musts", nil, many, api.ErrLimit},
		{"too many changes, a must fails", fails, many, api.ErrLimit},
		{"wrong musts", mustNames, fits, api.ErrName},
		{"wrong musts, no changes", mustNames, nil, api.ErrName},
		{"wrong musts, no room", mustNames, noRoom, api.ErrName},
		{"wrong musts, wrong changes", mustNames, names, api.ErrName},
		{"wrong musts, too many changes", mustNames, many, api.ErrName},
		{"too many musts", mustMany, fits, api.ErrLimit},
		{"too many musts, no changes", mustMany, nil, api.ErrLimit},
		{"too many musts, no room", mustMany, noRoom, api.ErrLimit},
		{"too many musts, wrong changes", mustMany, names, api.ErrLimit},
		{"too many musts, too many changes", mustMany, many, api.ErrLimit},
	} {
		if _, _, e := Write(s, x.musts, x.changes); e != x.want {
			t.Fatalf("%s: %d, not %d", x.what, e, x.want)
		}
		checkWrite(t, s, start, x.musts, x.changes)
	}
}

// P8.4: at 4096 tuples, each change on the way has to have room: also where the write would end below the limit.
func TestWriteLimit(t *testing.T) {
	all := numbers(0, 4200)
	in, in2, out, out2 := all[0], all[4000], all[4096], all[4097]
	byTurns := slices.Concat(each(all[:16], drop), each(all[4096:4112], put))
	for _, x := range []struct {
		what    string
		n       int // tuples of the set
		changes []api.Change
		want    api.Errno
	}{
		{"no change", 4096, nil, api.OK},
		{"one that is there", 4096, []api.Change{put(in)}, api.OK},
		{"one that is not there", 4096, []api.Change{put(out)}, api.ErrLimit},
		{"drop one that is not there", 4096, []api.Change{drop(out)}, api.OK},
		{"drop one that is not there, then put it in", 4096, []api.Change{drop(out), put(out)}, api.ErrLimit},
		{"drop, then put in", 4096, []api.Change{drop(in), put(out)}, api.OK},
		{"put in, then drop", 4096, []api.Change{put(out), drop(in)}, api.ErrLimit},
		{"put in, then drop the same", 4096, []api.Change{put(out), drop(out)}, api.ErrLimit},
		{"drop one, put in two, drop another one", 4096, []api.Change{drop(in), put(out), put(out2), drop(in2)}, api.ErrLimit},
		{"drop two, put in two", 4096, []api.Change{drop(in), drop(in2), put(out), put(out2)}, api.OK},
		{"drop and put in by turns", 4096, []api.Change{drop(in), put(out), drop(in2), put(out2)}, api.OK},
		{"drop, put in again, and another one", 4096, []api.Change{drop(in), put(in), put(out)}, api.ErrLimit},
		{"16 go, 16 come", 4096, byTurns, api.OK},
		{"15 go, 16 come", 4096, byTurns[1:], api.ErrLimit},
		{"32 go", 4096, each(all[4064:4096], drop), api.OK},
		{"32 that are there", 4096, each(all[:32], put), api.OK},
		{"room for one", 4095, []api.Change{put(out), put(in), put(out)}, api.OK},
		{"room for one of two", 4095, []api.Change{put(out), put(out2)}, api.ErrLimit},
		{"room for one of two, then dropped", 4095, []api.Change{put(out), put(out2), drop(out), drop(out2)}, api.ErrLimit},
		{"one after the other", 4095, []api.Change{put(out), drop(out), put(out2)}, api.OK},
		{"room for 32", 4064, each(all[4096:4128], put), api.OK},
		{"room for 31 of 32", 4065, each(all[4096:4128], put), api.ErrLimit},
	} {
		start := all[:x.n]
		s := set(t, start)
		musts := each([]api.Tuple{in, in2}, there)
		if _, _, e := Write(s, musts, x.changes); e != x.want {
			t.Fatalf("%s: %d, not %d", x.what, e, x.want)
		}
		checkWrite(t, s, start, musts, x.changes)
		checkWrite(t, s, start, nil, x.changes)
	}
}

// P8.2, P8.4, P8.5: without musts and changes the set is returned; the zero Set, and one that has become empty, are sets as others.
func TestEmpty(t *testing.T) {
	full := numbers(0, 4096)
	emptied, _ := set(t, universe[:1]).With(drop(universe[0]))
	for _, none := range []struct {
		musts   []api.Must
		changes []api.Change
	}{{nil, nil}, {[]api.Must{}, []api.Change{}}, {nil, []api.Change{}}} {
		if Check(none.musts) != api.OK || CheckChanges(none.changes) != api.OK || !Possible(none.musts) {
			t.Error("no musts and changes")
		}
		for _, start := range [][]api.Tuple{nil, universe[:1], universe, full} {
			s := set(t, start)
			checkFirst(t, s, start, none.musts)
			checkWrite(t, s, start, none.musts, none.changes)
			if out, _, e := Write(s, none.musts, none.changes); e != api.OK || !sets.Same(out, s) {
				t.Error(e)
			}
		}
	}
	for _, s := range []sets.Set{{}, emptied} {
		for _, l := range lists(each(universe[:2], there, gone), 2) {
			checkFirst(t, s, nil, l)
			for _, c := range lists(each(universe[:2], put, drop), 3) {
				checkWrite(t, s, nil, l, c)
			}
		}
	}
}

// P8.5: if each tuple that is changed has a must, the same write once more has ErrMust, unless it made no difference.
func TestWriteAgain(t *testing.T) {
	musts := lists(each(universe[:3], there, gone), 3)
	changes := lists(each(universe[:3], put, drop), 3)
	seen := map[api.Errno]int{}
	for bits := range 1 << 3 {
		s := set(t, subset(universe[:3], bits))
		for _, l := range musts {
			if at, _ := First(s, l); at != len(l) {
				continue
			}
			for _, c := range changes {
				if !asksForAll(l, c) {
					continue
				}
				out, _, e := Write(s, l, c)
				_, made, again := Write(out, l, c)
				want := api.ErrMust
				if sets.Same(out, s) {
					want = api.OK
				}
				seen[again]++
				if e != api.OK || again != want || again != api.OK && len(made) != 0 {
					t.Fatalf("%b: %s: %d, %d", bits, short(l, c), e, again)
				}
			}
		}
	}
	if seen[api.OK] < 100 || seen[api.ErrMust] < 100 {
		t.Error(seen)
	}
}

// asksForAll says whether each tuple that is changed has a must.
func asksForAll(l []api.Must, changes []api.Change) bool {
	for _, c := range changes {
		if !slices.Contains(l, there(c.Tuple)) && !slices.Contains(l, gone(c.Tuple)) {
			return false
		}
	}
	return true
}

// P8.5: writes that put in what must not be there, and drop what must be: 32 changes of 32 musts, a second time at once, and behind their opposites.
func TestWriteSwaps(t *testing.T) {
	all := numbers(0, 4096+16)
	start := all[:4096]
	l := slices.Concat(each(all[:16], there), each(all[4096:], gone))
	c := slices.Concat(each(all[:16], drop), each(all[4096:], put))
	back := slices.Concat(each(all[4096:], drop), each(all[:16], put))
	s := set(t, start)
	out, made, e := Write(s, l, c)
	if e != api.OK || !slices.Equal(made, c) {
		t.Fatal(e, short(nil, made))
	}
	if none, made, e := Write(out, l, c); e != api.ErrMust || none.Len() != 0 || len(made) != 0 {
		t.Fatal(e)
	}
	again, made, e := Write(out, nil, back)
	if e != api.OK || !slices.Equal(made, back) || !sets.Same(again, s) {
		t.Fatal(e, short(nil, made))
	}
	if third, _, e := Write(again, l, c); e != api.OK || !sets.Same(third, out) {
		t.Fatal(e)
	}
	wantSet(t, "the set", s, start)
	wantSet(t, "the set behind the write", out, all[16:])
}

// P8.5: First is OK only if the list is Possible; and if it is, and right, there is a set in which First is OK.
func TestFirstIfPossible(t *testing.T) {
	for _, l := range lists(each(universe[2:5], there, gone), 4) {
		some := false
		for bits := range 1 << 3 {
			_, e := First(set(t, subset(universe[2:5], bits)), l)
			some = some || e == api.OK
		}
		if some != Possible(l) {
			t.Fatalf("%s: %t", short(l, nil), some)
		}
	}
}

// R4: lists that are passed are neither modified nor kept, also what is behind them; sets that are passed stay.
func TestArgumentsStay(t *testing.T) {
	start := universe[:4]
	s := set(t, start)
	down := slices.Clone(universe)
	slices.Reverse(down)
	noChange := slices.Concat(each(start, put), each(universe[4:], drop))
	for _, l := range [][]api.Must{nil, each(start, there), each(down[3:], there), each(down[:3], gone), each(down, there), each(universe, there, gone), {{}}} {
		for _, c := range [][]api.Change{nil, noChange, each(universe, put), each(down, drop), each(down, put, drop), each(universe, drop, put), {{}}} {
			musts := append(slices.Clip(l), each(numbers(0, 3), there)...)
			changes := append(slices.Clip(c), each(numbers(0, 3), drop)...)
			mustsBefore, changesBefore := slices.Clone(musts), slices.Clone(changes)
			x, y := musts[:len(l)], changes[:len(c)]
			_, _, _ = Check(x), CheckChanges(y), Possible(x)
			_, _ = First(s, x)
			out, made, e := Write(s, x, y)
			if !slices.Equal(musts, mustsBefore) || !slices.Equal(changes, changesBefore) {
				t.Fatalf("%s: modified", short(l, c))
			}
			clear(musts)
			clear(changes)
			end, wantMade, wantErr := write(start, l, c)
			if e != wantErr || !slices.Equal(made, wantMade) {
				t.Fatalf("%s: %d, %s", short(l, c), e, short(nil, made))
			}
			wantSet(t, short(l, c), out, end)
			wantSet(t, "the set", s, start)
		}
	}
}

// R4: the changes that are returned are new memory: what is done to them is seen neither in the argument nor in another result.
func TestResultsAreNew(t *testing.T) {
	s := set(t, universe[:3])
	changes := each(universe, drop, put) // The drops of what is not there make no difference.
	onlyMade := slices.Concat(each(universe[:3], drop), each(universe[3:], put))
	for _, c := range [][]api.Change{changes, onlyMade} {
		before := slices.Clone(c)
		_, first, _ := Write(s, nil, c)
		_, second, _ := Write(s, nil, c)
		want := slices.Clone(second)
		if len(want) == 0 || !slices.Equal(first, want) {
			t.Fatal(short(nil, first))
		}
		_ = append(first, put(numbers(7, 8)[0]))
		clear(first)
		_, third, _ := Write(s, nil, c)
		if !slices.Equal(second, want) || !slices.Equal(third, want) || !slices.Equal(c, before) {
			t.Fatalf("%s, %s", short(nil, second), short(nil, third))
		}
	}
}

// P8.4, P8.5: writes on sets out of those that exist already; all of them stay as they are.
func TestSetsStay(t *testing.T) {
	r := rand.New(rand.NewSource(85))
	all := numbers(0, 30)
	made, wants := []sets.Set{{}}, [][]api.Tuple{nil}
	seen := map[api.Errno]int{}
	for range 2000 {
		from := r.Intn(len(made))
		var l []api.Must
		var changes []api.Change
		for range r.Intn(3) {
			l = append(l, api.Must{Tuple: all[r.Intn(30)], Not: r.Intn(2) == 0})
		}
		for range r.Intn(9) {
			changes = append(changes, api.Change{Tuple: all[r.Intn(30)], Drop: r.Intn(2) == 0})
		}
		checkFirst(t, made[from], wants[from], l)
		checkWrite(t, made[from], wants[from], l, changes)
		s, _, e := Write(made[from], l, changes)
		seen[e]++
		if e == api.OK {
			end, _, _ := write(wants[from], l, changes)
			made, wants = append(made, s), append(wants, end)
		}
	}
	for i, s := range made {
		wantSet(t, i, s, wants[i])
	}
	if seen[api.OK] < 500 || seen[api.ErrMust] < 500 {
		t.Error(seen)
	}
}

// R1: lists of tuples of any strings.
func TestAnyStrings(t *testing.T) {
	odd := []string{"", "\x00", "a", "x", "r", "u", "a\x00", "\xff\xff", "é", "#", strings.Repeat("z", 1<<16)}
	r := rand.New(rand.NewSource(1))
	s := set(t, universe)
	anyTuple := func() api.Tuple {
		var f [6]string
		for i := range f {
			f[i] = odd[r.Intn(len(odd))]
		}
		if r.Intn(2) == 0 {
			return universe[r.Intn(len(universe))]
		}
		return build(f)
	}
	for range 3000 {
		var l []api.Must
		var changes []api.Change
		for range r.Intn(5) {
			l = append(l, api.Must{Tuple: anyTuple(), Not: r.Intn(2) == 0})
			changes = append(changes, api.Change{Tuple: anyTuple(), Drop: r.Intn(2) == 0})
		}
		if Check(l) != mustsFault(l) || CheckChanges(changes) != changesFault(changes) || Possible(l) != possible(l) {
			t.Fatalf("%.600s: %d, %d, %t", short(l, changes), Check(l), CheckChanges(changes), Possible(l))
		}
		checkFirst(t, s, universe, l)
		checkWrite(t, s, universe, l, changes)
		checkWrite(t, s, universe, nil, changes)
	}
}

// The examples of the chapter.
func TestExamples(t *testing.T) {
	a, b := universe[0], universe[1]
	s := set(t, []api.Tuple{a})
	if !Holds(s, there(a)) || Holds(s, gone(a)) || !Holds(s, gone(b)) {
		t.Error("Holds")
	}
	if at, e := First(s, []api.Must{there(a), there(b)}); at != 1 || e != api.ErrMust {
		t.Error(at, e)
	}
	if at, e := First(s, []api.Must{there(a), gone(b)}); at != 2 || e != api.OK {
		t.Error(at, e)
	}
	out, made, e := Write(s, []api.Must{there(a), gone(b)}, []api.Change{put(b), drop(b), drop(a), drop(a)})
	wantSet(t, "Write", out, nil)
	if e != api.OK || !slices.Equal(made, []api.Change{put(b), drop(b), drop(a)}) {
		t.Error(e, short(nil, made))
	}
	if _, _, e := Write(s, []api.Must{there(b)}, []api.Change{put(b)}); e != api.ErrMust {
		t.Error(e)
	}
	if Possible([]api.Must{there(a), there(b), gone(a)}) || !Possible([]api.Must{there(a), there(a), gone(b)}) {
		t.Error("Possible")
	}
}
