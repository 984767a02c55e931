package trees

import (
	"cmp"
	"math"
	"math/rand"
	"slices"
	"strconv"
	"strings"
	"testing"

	"countersign/api"
)

// The functions have the signatures of the chapter.
var (
	_ func(func(a, b int) int) Map[int, string]                  = New[int, string]
	_ func(Map[int, string]) int                                 = Map[int, string].Len
	_ func(Map[int, string], int) (string, bool)                 = Map[int, string].Get
	_ func(Map[int, string], int, string) Map[int, string]       = Map[int, string].Put
	_ func(Map[int, string], int) Map[int, string]               = Map[int, string].Drop
	_ func(Map[int, string], int) (Pair[int, string], api.Errno) = Map[int, string].At
	_ func(Map[int, string], int) int                            = Map[int, string].Rank
	_ func(Map[int, string], int, int) []Pair[int, string]       = Map[int, string].Range
	_ func(Map[int, string], int, int) []Pair[int, string]       = Map[int, string].Between
	_ func(Map[int, string]) []Pair[int, string]                 = Map[int, string].All
	_ func(Map[int, string]) int                                 = Map[int, string].Depth
)

type (
	numbers = Map[int, string]
	pair    = Pair[int, string]
)

// least returns the number of nodes that a balanced tree of a depth has at least.
func least(depth int) int {
	n, next := 0, 1
	for range depth {
		n, next = next, n+next+1
	}
	return n
}

// checkTree looks at each node of a tree: whether it is balanced, and its depth and its size are right.
func checkTree[K, V any](t *testing.T, n *node[K, V]) (depth, size int) {
	t.Helper()
	if n == nil {
		return 0, 0
	}
	ld, ls := checkTree(t, n.left)
	rd, rs := checkTree(t, n.right)
	depth, size = max(ld, rd)+1, ls+rs+1
	if ld-rd > 1 || rd-ld > 1 {
		t.Fatalf("sides of the depths %d and %d", ld, rd)
	}
	if n.depth != depth || n.size != size {
		t.Fatalf("depth %d, size %d: want %d, %d", n.depth, n.size, depth, size)
	}
	return depth, size
}

// checkDepth looks whether a map is balanced, and its depth is that of its tree, and not above what is promised.
func checkDepth[K, V any](t *testing.T, m Map[K, V]) {
	t.Helper()
	depth, size := checkTree(t, m.root)
	if m.Depth() != depth || m.Len() != size {
		t.Fatalf("Depth %d, Len %d: want %d, %d", m.Depth(), m.Len(), depth, size)
	}
	if least(m.Depth()) > m.Len() {
		t.Fatalf("depth %d with %d pairs", m.Depth(), m.Len())
	}
}

// The oracle: a sorted list of pairs, which is read from its first pair to its last one.

// oraclePut returns the list in which a key has a value.
func oraclePut(l []pair, k int, v string) []pair {
	var out []pair
	for _, p := range l {
		if p.Key < k {
			out = append(out, p)
		}
	}
	out = append(out, pair{k, v})
	for _, p := range l {
		if p.Key > k {
			out = append(out, p)
		}
	}
	return out
}

// oracleDrop returns the list without a key.
func oracleDrop(l []pair, k int) []pair {
	var out []pair
	for _, p := range l {
		if p.Key != k {
			out = append(out, p)
		}
	}
	return out
}

// oracleBetween returns the pairs whose keys are from a number up to another one.
func oracleBetween(l []pair, from, to int) []pair {
	var out []pair
	for _, p := range l {
		if from <= p.Key && p.Key < to {
			out = append(out, p)
		}
	}
	return out
}

// oracleRange returns the pairs whose indices are from a number up to another one.
func oracleRange(l []pair, from, to int) []pair {
	var out []pair
	for i, p := range l {
		if from <= i && i < to {
			out = append(out, p)
		}
	}
	return out
}

// wantPairs looks whether a list has these pairs, and no room for others.
func wantPairs(t *testing.T, what string, got, want []pair) {
	t.Helper()
	if !slices.Equal(got, want) {
		t.Fatalf("%s: %v, want %v", what, got, want)
	}
	if cap(got) != len(got) {
		t.Fatalf("%s: room for %d pairs, has %d", what, cap(got), len(got))
	}
}

// checkKeys looks at what a map says of the keys from a number up to another one, alone and in twos.
func checkKeys(t *testing.T, m numbers, want []pair, from, to int) {
	t.Helper()
	for k := from; k < to; k++ {
		has := oracleBetween(want, k, k+1)
		v, ok := m.Get(k)
		if ok != (len(has) == 1) || ok && v != has[0].Value || !ok && v != "" {
			t.Fatalf("Get(%d): %q, %t, want %v", k, v, ok, has)
		}
		if r := m.Rank(k); r != len(oracleBetween(want, math.MinInt, k)) {
			t.Fatalf("Rank(%d): %d of %v", k, r, want)
		}
		if p, e := m.At(m.Rank(k)); ok && (p != pair{k, v} || e != api.OK) {
			t.Fatalf("At(Rank(%d)): %v, %d", k, p, e)
		}
		for k2 := from; k2 < to; k2++ {
			wantPairs(t, "Between", m.Between(k, k2), oracleBetween(want, k, k2))
		}
	}
}

// checkIndices looks at what a map says of all indices, alone and in twos.
func checkIndices(t *testing.T, m numbers, want []pair) {
	t.Helper()
	indices := []int{math.MinInt, math.MaxInt}
	for i := -2; i < len(want)+3; i++ {
		indices = append(indices, i)
	}
	for _, i := range indices {
		p, e := m.At(i)
		if i >= 0 && i < len(want) {
			if p != want[i] || e != api.OK {
				t.Fatalf("At(%d): %v, %d, want %v", i, p, e, want[i])
			}
		} else if p != (pair{}) || e != api.ErrRange {
			t.Fatalf("At(%d): %v, %d, want ErrRange", i, p, e)
		}
		for _, j := range indices {
			wantPairs(t, "Range", m.Range(i, j), oracleRange(want, i, j))
		}
	}
}

// check looks at all that a map says, if its keys are from a number up to another one.
func check(t *testing.T, m numbers, want []pair, from, to int) {
	t.Helper()
	if m.Len() != len(want) {
		t.Fatalf("Len %d, want %d", m.Len(), len(want))
	}
	wantPairs(t, "All", m.All(), want)
	checkDepth(t, m)
	checkKeys(t, m, want, from-2, to+2)
	checkIndices(t, m, want)
}

// textOf returns a value for a number.
func textOf(n int) string { return "v" + strconv.Itoa(n) }

// eachOrder calls f with all orders of the numbers below n.
func eachOrder(n int, f func(keys []int)) {
	var walk func(keys []int)
	walk = func(keys []int) {
		if len(keys) == n {
			f(keys)
		}
		for k := range n {
			if !slices.Contains(keys, k) {
				walk(append(slices.Clip(keys), k))
			}
		}
	}
	walk(nil)
}

// eachTree calls f with all balanced trees of n pairs; the key of the first pair is a number, and each other key is greater by 2 than the one before it.
func eachTree(n, first int, f func(root *node[int, string])) {
	if n == 0 {
		f(nil)
		return
	}
	for size := range n {
		eachTree(size, first, func(left *node[int, string]) {
			k := first + 2*size
			eachTree(n-1-size, k+2, func(right *node[int, string]) {
				if d := left.levels() - right.levels(); d >= -1 && d <= 1 {
					f(tree(left, pair{k, textOf(k)}, right))
				}
			})
		})
	}
}

// P5.1 to P5.4: all lists of up to four calls of Put and Drop with four keys; each map is looked at again when all calls behind it have been made. (P5.5)
func TestAllChanges(t *testing.T) {
	const keys = 4
	n := 0
	var walk func(m numbers, want []pair, left int)
	walk = func(m numbers, want []pair, left int) {
		for k := range keys {
			if left > 0 {
				n++
				v := textOf(n)
				walk(m.Put(k, v), oraclePut(want, k, v), left-1)
				walk(m.Drop(k), oracleDrop(want, k), left-1)
			}
		}
		check(t, m, want, 0, keys)
	}
	walk(New[int, string](cmp.Compare), nil, 4)
}

// P5.1, P5.4, P5.5: one change of each balanced tree of up to twelve pairs, at each place.
func TestChangesOfAllTrees(t *testing.T) {
	trees := 0
	for n := range 13 {
		eachTree(n, 1, func(root *node[int, string]) {
			trees++
			m := numbers{cmp.Compare[int], root}
			want := m.All()
			for k := range 2*n + 2 {
				for _, x := range []struct {
					what string
					m    numbers
					want []pair
				}{
					{"Put", m.Put(k, "new"), oraclePut(want, k, "new")},
					{"Drop", m.Drop(k), oracleDrop(want, k)},
				} {
					wantPairs(t, x.what, x.m.All(), x.want)
					checkDepth(t, x.m)
				}
			}
			wantPairs(t, "the map before", m.All(), want)
			checkDepth(t, m)
		})
	}
	if trees != 426 {
		t.Errorf("%d trees", trees)
	}
}

// P5.5: all orders of seven keys make the same map.
func TestOrdersOfPuts(t *testing.T) {
	const keys = 7
	var want []pair
	for k := range keys {
		want = append(want, pair{k, textOf(k)})
	}
	eachOrder(keys, func(order []int) {
		m := New[int, string](cmp.Compare)
		for _, k := range order {
			m = m.Put(k, textOf(k))
			checkDepth(t, m)
		}
		wantPairs(t, "All", m.All(), want)
		for k, p := range want {
			if v, ok := m.Get(k); v != p.Value || !ok || m.Rank(k) != k {
				t.Fatalf("%v: %q, %t, %d", order, v, ok, m.Rank(k))
			}
		}
		for _, k := range order {
			m = m.Drop(k)
			checkDepth(t, m)
		}
		wantPairs(t, "nothing", m.All(), nil)
	})
}

// manyKeys returns some orders of the numbers below n.
func manyKeys(n int) map[string][]int {
	out := map[string][]int{"shuffled": rand.New(rand.NewSource(5)).Perm(n)}
	for i := range n {
		out["ascending"] = append(out["ascending"], i)
		out["descending"] = append(out["descending"], n-1-i)
		inward := i / 2
		if i%2 == 1 {
			inward = n - 1 - i/2
		}
		out["inward"] = append(out["inward"], inward)
	}
	out["outward"] = slices.Clone(out["inward"])
	slices.Reverse(out["outward"])
	return out
}

// P5.4, P5.5: 4096 keys in some orders, put in and then dropped in each of these orders; the depth behind each change.
func TestManyKeys(t *testing.T) {
	const n = api.MaxTuples
	small := func(m numbers) {
		if least(m.Depth()) > m.Len() || m.Depth() > 16 {
			t.Fatalf("depth %d with %d pairs", m.Depth(), m.Len())
		}
	}
	orders := manyKeys(n)
	for name, keys := range orders {
		t.Run(name, func(t *testing.T) {
			full := New[int, string](cmp.Compare)
			for i, k := range keys {
				full = full.Put(k, textOf(k))
				small(full)
				if full.Len() != i+1 {
					t.Fatal(full.Len(), i)
				}
				if i%256 == 0 {
					checkDepth(t, full)
				}
			}
			for drops, gone := range orders {
				m := full
				for i, k := range gone {
					m = m.Drop(k)
					small(m)
					if m.Len() != n-1-i {
						t.Fatal(drops, m.Len(), i)
					}
					if i%256 == 0 {
						checkDepth(t, m)
					}
				}
			}
			checkDepth(t, full)
			for i, p := range full.All() {
				at, e := full.At(i)
				if p != (pair{i, textOf(i)}) || at != p || e != api.OK || full.Rank(i) != i {
					t.Fatal(i, p, at, e)
				}
			}
		})
	}
}

// levelKeys returns the keys of the balanced tree that has a depth and as few nodes as may be, level by level: keys that are put in so never turn a tree.
func levelKeys(depth int) []int {
	type part struct{ depth, first int }
	var keys []int
	for parts := []part{{depth, 0}}; len(parts) > 0; parts = parts[1:] {
		p := parts[0]
		if p.depth <= 0 {
			continue
		}
		k := p.first + least(p.depth-1)
		keys = append(keys, k)
		parts = append(parts, part{p.depth - 1, p.first}, part{p.depth - 2, k + 1})
	}
	return keys
}

// P5.4: the greatest depths that are possible, where one Drop turns the tree on each level.
func TestDeepest(t *testing.T) {
	for depth := range 17 {
		m := New[int, string](cmp.Compare)
		keys := levelKeys(depth)
		for _, k := range keys {
			m = m.Put(k, textOf(k))
		}
		if m.Depth() != depth || m.Len() != least(depth) {
			t.Fatalf("depth %d with %d pairs, want %d with %d", m.Depth(), m.Len(), depth, least(depth))
		}
		want := m.All()
		for i := 0; i < len(keys); i += 1 + len(keys)/200 {
			k := keys[len(keys)-1-i]
			less := m.Drop(k)
			checkDepth(t, less)
			wantPairs(t, "Drop", less.All(), oracleDrop(want, k))
		}
		for n := m.Len(); n > 0; n-- { // the last key is where the tree is least deep
			m = m.Drop(want[n-1].Key)
			checkDepth(t, m)
		}
	}
}

// P5.5: some thousand changes, each of a map that is taken from those that exist already; all of them stay as they are.
func TestMapsStay(t *testing.T) {
	const keys = 64
	r := rand.New(rand.NewSource(55))
	maps := []numbers{New[int, string](cmp.Compare)}
	wants := [][]pair{nil}
	for i := range 3000 {
		from := len(maps) - 1
		if i%5 == 0 {
			from = r.Intn(len(maps))
		}
		m, want, k := maps[from], wants[from], r.Intn(keys)
		if r.Intn(3) > 0 {
			m, want = m.Put(k, textOf(i)), oraclePut(want, k, textOf(i))
		} else {
			m, want = m.Drop(k), oracleDrop(want, k)
		}
		checkDepth(t, m)
		maps, wants = append(maps, m), append(wants, want)
	}
	for i, m := range maps {
		wantPairs(t, "All", m.All(), wants[i])
		checkDepth(t, m)
		if i%100 == 0 {
			check(t, m, wants[i], 0, keys)
		}
	}
}

// P5.1: a key that is there stays as it was, its value becomes the new one, and the tree keeps its form.
func TestKeyStays(t *testing.T) {
	fold := func(a, b string) int { return cmp.Compare(strings.ToLower(a), strings.ToLower(b)) }
	m := New[string, int](fold)
	for i, k := range []string{"b", "A", "c", "D", "e"} {
		m = m.Put(k, i)
	}
	for i, k := range []string{"a", "B", "C", "d", "E"} {
		before, _ := m.At(i)
		next := m.Put(k, 100+i)
		p, e := next.At(i)
		if p.Key != before.Key || p.Key == k || p.Value != 100+i || e != api.OK {
			t.Errorf("%s: %v, %d", k, p, e)
		}
		if v, ok := next.Get(before.Key); v != 100+i || !ok || next.Len() != 5 || next.Depth() != m.Depth() {
			t.Errorf("%s: %d, %t", k, v, ok)
		}
		if v, ok := m.Get(k); v != before.Value || !ok {
			t.Errorf("the map before: %s: %d, %t", k, v, ok)
		}
		checkDepth(t, next)
	}
	if n := m.Drop("B").Drop("a").Put("B", 7); n.Len() != 4 || n.All()[0] != (Pair[string, int]{"B", 7}) {
		t.Error(n.All())
	}
}

// P5.1: Drop of a key that is not there returns the map itself.
func TestDropNotThere(t *testing.T) {
	m := New[int, string](cmp.Compare)
	for k := range 9 {
		if n := m.Drop(2 * k); n.root != m.root {
			t.Errorf("%d: another map", k)
		}
		m = m.Put(2*k, textOf(k))
		if n := m.Drop(2*k + 1).Drop(-1); n.root != m.root || n.Len() != k+1 {
			t.Errorf("%d: another map", k)
		}
	}
	if n := m.Drop(4).Drop(4); n.Len() != 8 {
		t.Error(n.All())
	}
}

// P5.1: the zero Map, and New of nil, have no order, and stay as they are.
func TestNoOrder(t *testing.T) {
	var zero numbers
	for i, m := range []numbers{zero, New[int, string](nil)} {
		for range 3 {
			check(t, m, nil, -2, 2)
			m = m.Put(1, "a").Put(0, "").Drop(1).Put(2, "b").Drop(3)
		}
		if _, e := m.Put(1, "a").At(0); e != api.ErrRange || m.Put(1, "a").Len() != 0 || m.Depth() != 0 {
			t.Error(i, e)
		}
	}
}

// P5.1 to P5.3: New has no pairs, but an order: all that can be asked, also of keys.
func TestEmpty(t *testing.T) {
	m := New[int, string](cmp.Compare)
	check(t, m, nil, -2, 2)
	check(t, m.Put(1, "a").Drop(1), nil, -2, 2)
	check(t, m.Put(1, "a").Drop(1).Put(2, ""), []pair{{2, ""}}, -2, 4)
}

// Orders may return any numbers below and above 0, and any order that is total will do.
func TestOtherOrders(t *testing.T) {
	far := func(a, b int) int {
		switch {
		case a < b:
			return math.MinInt
		case a > b:
			return math.MaxInt
		}
		return 0
	}
	var down []int
	m, far2, back := New[int, string](cmp.Compare), New[int, string](far), New[int, string](func(a, b int) int { return cmp.Compare(b, a) })
	for _, k := range rand.New(rand.NewSource(6)).Perm(40) {
		m, far2, back = m.Put(k, textOf(k)), far2.Put(k, textOf(k)), back.Put(k, textOf(k))
	}
	check(t, far2, m.All(), 0, 40)
	checkDepth(t, back)
	for i, p := range back.All() {
		down = append(down, p.Key)
		if back.Rank(p.Key) != i || p.Value != textOf(p.Key) {
			t.Error(i, p)
		}
	}
	if len(down) != 40 || !slices.IsSortedFunc(down, func(a, b int) int { return b - a }) {
		t.Error(down)
	}
	if l := back.Between(30, 20); len(l) != 10 || l[0].Key != 30 || l[9].Key != 21 || len(back.Between(20, 30)) != 0 {
		t.Error(l)
	}
}

// An order by which all keys are equal is a map of one pair at most.
func TestOneKey(t *testing.T) {
	m := New[int, string](func(a, b int) int { return 0 })
	m = m.Put(5, "a").Put(3, "b").Put(9, "c")
	wantPairs(t, "All", m.All(), []pair{{5, "c"}})
	if v, ok := m.Get(77); v != "c" || !ok || m.Rank(77) != 0 || m.Drop(1).Len() != 0 || len(m.Between(1, 2)) != 0 {
		t.Error(v, ok)
	}
}

// noOrders returns functions that are no total orders; some depend on what they were asked before.
func noOrders() map[string]func(a, b int) int {
	asked := 0
	r := rand.New(rand.NewSource(7))
	return map[string]func(a, b int) int{
		"always less":    func(a, b int) int { return -1 },
		"always greater": func(a, b int) int { return 1 },
		"in a circle":    func(a, b int) int { return (a-b+300)%3 - 1 },
		"in turns":       func(a, b int) int { asked++; return asked%3 - 1 },
		"never equal":    func(a, b int) int { return 2*(a&1^b&1) - 1 },
		"any":            func(a, b int) int { return r.Intn(3) - 1 },
		"any, seldom 0":  func(a, b int) int { return r.Intn(100) - 50 },
		"wraps around":   func(a, b int) int { return int(int8(a*37) - int8(b*91)) },
	}
}

// Definitions: if the function is no total order, all calls return.
func TestNoTotalOrder(t *testing.T) {
	for name, f := range noOrders() {
		m := New[int, string](f)
		for i := range 600 {
			if i < 300 || i%3 == 0 {
				m = m.Put(i*7%100, textOf(i))
			} else {
				m = m.Drop(i * 3 % 100)
			}
			m.Get(i)
			m.At(m.Rank(i))
			m.Between(i, i+5)
			m.Between(i+5, i)
			if n := len(m.All()); n != m.Len() || n != len(m.Range(-1, n+1)) {
				t.Fatal(name, n, m.Len())
			}
			checkDepth(t, m)
		}
	}
}

// Definitions: with "less" for "not greater" a NaN is equal to nothing; all calls return.
func TestNaN(t *testing.T) {
	m := New[float64, int](func(a, b float64) int {
		if a == b {
			return 0
		}
		if a < b {
			return -1
		}
		return 1
	})
	for i := range 50 {
		m = m.Put(math.NaN(), i).Put(float64(i%7), i).Drop(math.NaN()).Drop(float64(i % 5))
		m.Get(math.NaN())
		m.Between(math.NaN(), 3)
		m.Between(3, math.NaN())
		checkDepth(t, m)
	}
}

// The pairs are yielded as long as they are asked for, from any index on.
func TestPairsAreLeft(t *testing.T) {
	m := New[int, string](cmp.Compare)
	for k := range 20 {
		m = m.Put(k, textOf(k))
		for from := range m.Len() + 1 {
			for to := from; to <= m.Len(); to++ {
				at := from
				for p := range m.pairs(from, m.Len()) {
					if at == to {
						break
					}
					if p != (pair{at, textOf(at)}) {
						t.Fatal(from, at, p)
					}
					at++
				}
				if at != to {
					t.Fatal(from, to, at)
				}
			}
		}
	}
}

// R4: what a call returns is new memory.
func TestResultsAreNew(t *testing.T) {
	m := New[int, string](cmp.Compare)
	var want []pair
	for k := range 20 {
		m = m.Put(k, textOf(k))
		want = append(want, pair{k, textOf(k)})
	}
	for range 2 {
		for _, l := range [][]pair{m.All(), m.All(), m.Range(0, 20), m.Range(3, 8), m.Between(0, 20), m.Between(5, 6)} {
			if len(l) == 0 {
				t.Fatal("nothing")
			}
			for i := range l {
				l[i] = pair{-1, "other"}
			}
			_ = append(l, pair{-2, "more"})
		}
		check(t, m, want, 0, 20)
	}
}

// A map may have keys and values of any types.
func TestOtherTypes(t *testing.T) {
	type field struct{ a, b string }
	structs := New[field, []int](func(x, y field) int { return cmp.Or(cmp.Compare(x.a, y.a), cmp.Compare(x.b, y.b)) })
	for i, k := range []field{{"b", "a"}, {"a", "b"}, {"a", "a"}, {"b", "b"}, {"a", "b"}} {
		structs = structs.Put(k, []int{i})
	}
	v, ok := structs.Get(field{"a", "b"})
	if structs.Len() != 4 || !ok || !slices.Equal(v, []int{4}) || structs.Rank(field{"b", ""}) != 2 {
		t.Error(structs.All())
	}
	if v, ok := structs.Get(field{}); ok || v != nil {
		t.Error(v)
	}
	if p, e := structs.At(4); e != api.ErrRange || p.Key != (field{}) || p.Value != nil {
		t.Error(p, e)
	}
	lists := New[[]int, error](slices.Compare).Put([]int{2}, nil).Put([]int{1, 9}, nil).Put(nil, nil)
	if v, ok := lists.Get([]int{1, 9}); v != nil || !ok || lists.Rank([]int{1, 10}) != 2 {
		t.Error(v, ok)
	}
	empty := New[struct{}, any](func(a, b struct{}) int { return 0 }).Put(struct{}{}, 1).Put(struct{}{}, "x")
	if v, ok := empty.Get(struct{}{}); v != "x" || !ok || empty.Len() != 1 {
		t.Error(v, ok)
	}
}

// A value that is there may be the zero value: Get tells it from none.
func TestZeroValue(t *testing.T) {
	m := New[int, string](cmp.Compare).Put(0, "")
	if v, ok := m.Get(0); v != "" || !ok {
		t.Error(v, ok)
	}
	if v, ok := m.Get(1); v != "" || ok {
		t.Error(v, ok)
	}
	if p, e := m.At(0); p != (pair{}) || e != api.OK {
		t.Error(p, e)
	}
}

// The examples of the chapter.
func TestExamples(t *testing.T) {
	m := New[int, string](cmp.Compare).Put(5, "c").Put(1, "a").Put(3, "b")
	if v, ok := m.Get(3); v != "b" || !ok {
		t.Error(v, ok)
	}
	if v, ok := m.Get(2); v != "" || ok {
		t.Error(v, ok)
	}
	if a, b := m.Rank(2), m.Rank(9); a != 1 || b != 3 {
		t.Error(a, b)
	}
	if p, e := m.At(2); p != (pair{5, "c"}) || e != api.OK {
		t.Error(p, e)
	}
	if v, _ := m.Put(3, "x").Get(3); v != "x" {
		t.Error(v)
	}
	if v, _ := m.Get(3); v != "b" || m.Drop(3).Len() != 2 || m.Drop(2).Len() != 3 {
		t.Error(v)
	}
	wantPairs(t, "Range(1, 9)", m.Range(1, 9), []pair{{3, "b"}, {5, "c"}})
	wantPairs(t, "Between(2, 5)", m.Between(2, 5), []pair{{3, "b"}})
	if m.Depth() != 2 {
		t.Error(m.Depth())
	}
	if p, e := m.At(3); p != (pair{}) || e != api.ErrRange {
		t.Error(p, e)
	}
	if n := (numbers{}).Put(1, "a").Len(); n != 0 {
		t.Error(n)
	}
}
