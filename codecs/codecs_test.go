package codecs

import (
	"bytes"
	"encoding/binary"
	"math"
	"math/big"
	"math/rand"
	"slices"
	"strings"
	"testing"

	"countersign/api"
)

// The oracle: a kind is a list of parts, and a value the list of what its parts hold. It knows nothing of Reader and Writer.

// part is a part of a value: a number of at most most, and behind it that many bytes if it is a text.
type part struct {
	most uint64
	err  api.Errno // if the number is above most
	text bool
}

var (
	numberPart = part{math.MaxUint64, api.OK, false}
	smallPart  = part{255, api.ErrForm, false}
	boolPart   = part{1, api.ErrForm, false}
	namePart   = part{16, api.ErrLimit, true}
)

func lenPart(limit uint64) part  { return part{limit, api.ErrLimit, false} }
func textPart(limit uint64) part { return part{limit, api.ErrLimit, true} }

func names(n int) []part { return slices.Repeat([]part{namePart}, n) }

func queryParts() []part { return append([]part{smallPart}, names(5)...) }

func tupleAndBool() []part { return append(names(6), boolPart) }

// held is what a part of a value holds.
type held struct {
	n uint64
	s string
}

// formOf returns the form of what parts hold.
func formOf(parts []part, l []held) []byte {
	var out []byte
	for i, h := range l {
		if parts[i].text {
			out = append(binary.AppendUvarint(out, uint64(len(h.s))), h.s...)
		} else {
			out = binary.AppendUvarint(out, h.n)
		}
	}
	return out
}

// wantNumber says what number is at the beginning of bytes, how many bytes it has, or what is wrong and where.
func wantNumber(b []byte) (n uint64, size, at int, err api.Errno) {
	end := slices.IndexFunc(b, func(x byte) bool { return x < 128 })
	if len(b) > 9 && (end < 0 || end >= 9) && b[9] != 1 {
		return 0, 0, 9, api.ErrForm
	}
	if end < 0 {
		return 0, 0, len(b), api.ErrShort
	}
	if end > 0 && b[end] == 0 {
		return 0, 0, end, api.ErrForm
	}
	sum := new(big.Int)
	for i := end; i >= 0; i-- {
		sum.Mul(sum, big.NewInt(128)).Add(sum, big.NewInt(int64(b[i]%128)))
	}
	if !sum.IsUint64() {
		panic("the oracle is wrong")
	}
	return sum.Uint64(), end + 1, 0, api.OK
}

// want is what there is behind a value that is read.
type want struct {
	l    []held // nil with a fault
	at   int    // the place
	bad  int    // the offset of the fault
	err  api.Errno
	left int
}

// wantValue says what is read at a place of bytes.
func wantValue(b []byte, from int, parts []part) want {
	var l []held
	at := from
	for _, p := range parts {
		n, size, bad, e := wantNumber(b[at:])
		bad += at
		if e == api.OK && n > p.most {
			bad, e = at, p.err
		}
		h := held{n: n}
		if e == api.OK && p.text {
			if n > uint64(len(b)-at-size) {
				bad, e = len(b), api.ErrShort
			} else {
				h = held{s: string(b[at+size : at+size+int(n)])}
				size += int(n)
			}
		}
		if e != api.OK {
			return want{at: from, bad: bad, err: e, left: len(b) - from}
		}
		at += size
		l = append(l, h)
	}
	return want{l: l, at: at, left: len(b) - at}
}

// kind is a kind of values: how it is read, and how it is written, both through what its parts hold.
type kind struct {
	name  string
	parts []part
	read  func(r *Reader) []held
	write func(w *Writer, l []held)
}

func ofNumber(n uint64) []held { return []held{{n: n}} }

func ofBool(b bool) held {
	if b {
		return held{n: 1}
	}
	return held{}
}

func ofTexts(texts ...string) (l []held) {
	for _, s := range texts {
		l = append(l, held{s: s})
	}
	return l
}

func ofTuple(t api.Tuple) []held {
	g, u := t.Goal, t.Subject
	return ofTexts(g.Object.Space, g.Object.ID, g.Rel, u.Object.Space, u.Object.ID, u.Rel)
}

func object(l []held) api.Object { return api.Object{Space: l[0].s, ID: l[1].s} }

func goal(l []held) api.Goal { return api.Goal{Object: object(l), Rel: l[2].s} }

func tuple(l []held) api.Tuple {
	return api.Tuple{Goal: goal(l), Subject: api.Subject{Object: object(l[3:]), Rel: l[5].s}}
}

// plainKinds returns the kinds whose values are one number or text.
func plainKinds() []kind {
	return []kind{
		{"Number", []part{numberPart},
			func(r *Reader) []held { return ofNumber(r.Number()) },
			func(w *Writer, l []held) { w.Number(l[0].n) }},
		{"Int", []part{numberPart},
			func(r *Reader) []held { return ofNumber(uint64(r.Int())) },
			func(w *Writer, l []held) { w.Int(int64(l[0].n)) }},
		{"Small", []part{smallPart},
			func(r *Reader) []held { return ofNumber(uint64(r.Small())) },
			func(w *Writer, l []held) { w.Small(uint8(l[0].n)) }},
		{"Bool", []part{boolPart},
			func(r *Reader) []held { return []held{ofBool(r.Bool())} },
			func(w *Writer, l []held) { w.Bool(l[0].n == 1) }},
		{"Text 0", []part{textPart(0)},
			func(r *Reader) []held { return ofTexts(r.Text(0)) },
			func(w *Writer, l []held) { w.Text(l[0].s) }},
		{"Text 2", []part{textPart(2)},
			func(r *Reader) []held { return ofTexts(r.Text(2)) },
			func(w *Writer, l []held) { w.Text(l[0].s) }},
		{"Text 300", []part{textPart(300)},
			func(r *Reader) []held { return ofTexts(r.Text(300)) },
			func(w *Writer, l []held) { w.Text(l[0].s) }},
		{"Text of any length", []part{textPart(math.MaxInt)},
			func(r *Reader) []held { return ofTexts(r.Text(math.MaxInt)) },
			func(w *Writer, l []held) { w.Text(l[0].s) }},
		{"Text -1", []part{textPart(0)},
			func(r *Reader) []held { return ofTexts(r.Text(-1)) },
			func(w *Writer, l []held) { w.Text(l[0].s) }},
		{"Len 0", []part{lenPart(0)},
			func(r *Reader) []held { return ofNumber(uint64(r.Len(0))) },
			func(w *Writer, l []held) { w.Number(l[0].n) }},
		{"Len 127", []part{lenPart(127)},
			func(r *Reader) []held { return ofNumber(uint64(r.Len(127))) },
			func(w *Writer, l []held) { w.Number(l[0].n) }},
		{"Len of any length", []part{lenPart(math.MaxInt)},
			func(r *Reader) []held { return ofNumber(uint64(r.Len(math.MaxInt))) },
			func(w *Writer, l []held) { w.Number(l[0].n) }},
		{"Len below 0", []part{lenPart(0)},
			func(r *Reader) []held { return ofNumber(uint64(r.Len(math.MinInt))) },
			func(w *Writer, l []held) { w.Number(l[0].n) }},
	}
}

// structKinds returns the kinds whose values are structs.
func structKinds() []kind {
	return []kind{
		{"Object", names(2),
			func(r *Reader) []held { o := r.Object(); return ofTexts(o.Space, o.ID) },
			func(w *Writer, l []held) { w.Object(object(l)) }},
		{"Goal", names(3),
			func(r *Reader) []held { g := r.Goal(); return ofTexts(g.Object.Space, g.Object.ID, g.Rel) },
			func(w *Writer, l []held) { w.Goal(goal(l)) }},
		{"Subject", names(3),
			func(r *Reader) []held { s := r.Subject(); return ofTexts(s.Object.Space, s.Object.ID, s.Rel) },
			func(w *Writer, l []held) { w.Subject(api.Subject{Object: object(l), Rel: l[2].s}) }},
		{"Tuple", names(6),
			func(r *Reader) []held { return ofTuple(r.Tuple()) },
			func(w *Writer, l []held) { w.Tuple(tuple(l)) }},
		{"Change", tupleAndBool(),
			func(r *Reader) []held { c := r.Change(); return append(ofTuple(c.Tuple), ofBool(c.Drop)) },
			func(w *Writer, l []held) { w.Change(api.Change{Tuple: tuple(l), Drop: l[6].n == 1}) }},
		{"Must", tupleAndBool(),
			func(r *Reader) []held { m := r.Must(); return append(ofTuple(m.Tuple), ofBool(m.Not)) },
			func(w *Writer, l []held) { w.Must(api.Must{Tuple: tuple(l), Not: l[6].n == 1}) }},
		{"Query", queryParts(),
			func(r *Reader) []held {
				q := r.Query()
				o, u := q.Goal.Object, q.User
				return append([]held{{n: uint64(q.Kind)}}, ofTexts(o.Space, o.ID, q.Goal.Rel, u.Space, u.ID)...)
			},
			func(w *Writer, l []held) {
				w.Query(api.Query{Kind: uint8(l[0].n), Goal: goal(l[1:]), User: object(l[4:])})
			}},
	}
}

func allKinds() []kind { return append(plainKinds(), structKinds()...) }

// reading looks at reading one value of a kind at a place of bytes, and at all that can be asked behind it.
func reading(t *testing.T, k kind, b []byte, from int) {
	t.Helper()
	r := &Reader{bytes: b, at: from}
	got := k.read(r)
	w := wantValue(b, from, k.parts)
	l := w.l
	if l == nil {
		l = make([]held, len(k.parts))
	}
	if !slices.Equal(got, l) {
		t.Fatalf("%s at %d of %v: %v, want %v", k.name, from, b, got, l)
	}
	if r.At() != w.at || r.Left() != w.left {
		t.Fatalf("%s at %d of %v: the place is %d, with %d left; want %d, %d", k.name, from, b, r.At(), r.Left(), w.at, w.left)
	}
	at, err := r.Fault()
	if at != w.bad || err != w.err || r.Failed() != (w.err != api.OK) {
		t.Fatalf("%s at %d of %v: fault %d %d, failed %v; want %d %d", k.name, from, b, at, err, r.Failed(), w.bad, w.err)
	}
	if w.err == api.OK && w.left > 0 {
		w.bad, w.err = w.at, api.ErrForm
	}
	if at, err = r.End(); at != w.bad || err != w.err {
		t.Fatalf("%s at %d of %v: end %d %d, want %d %d", k.name, from, b, at, err, w.bad, w.err)
	}
}

// eachBytes calls visit with all lists of up to that many of some bytes. The list is visit's only during the call.
func eachBytes(some []byte, longest int, visit func(b []byte)) {
	var grow func(b []byte)
	grow = func(b []byte) {
		visit(b)
		if len(b) < longest {
			for _, x := range some {
				grow(append(b, x))
			}
		}
	}
	grow(make([]byte, 0, longest))
}

// numbers returns 0 and the greatest uint64, and what is close to a number with one more group or to a limit.
func numbers() []uint64 {
	out := []uint64{0, 1, 2, 17, 254, 255, 256, 300, math.MaxInt64 - 1, math.MaxInt64, 1 << 63, math.MaxUint64 - 1, math.MaxUint64}
	for shift := 7; shift < 64; shift += 7 {
		out = append(out, 1<<shift-1, 1<<shift, 1<<shift+1)
	}
	return out
}

// P4.1: the form of a number, whose bytes are all but the last one 128 greater.
func TestNumberForm(t *testing.T) {
	for _, x := range []struct {
		n    uint64
		form []byte
	}{
		{0, []byte{0}},
		{1, []byte{1}},
		{127, []byte{127}},
		{128, []byte{128, 1}},
		{300, []byte{172, 2}},
		{16383, []byte{255, 127}},
		{16384, []byte{128, 128, 1}},
		{1<<63 - 1, []byte{255, 255, 255, 255, 255, 255, 255, 255, 127}},
		{1 << 63, []byte{128, 128, 128, 128, 128, 128, 128, 128, 128, 1}},
		{math.MaxUint64, []byte{255, 255, 255, 255, 255, 255, 255, 255, 255, 1}},
	} {
		var w Writer
		w.Number(x.n)
		if !bytes.Equal(w.Bytes(), x.form) {
			t.Errorf("%d: %v, want %v", x.n, w.Bytes(), x.form)
		}
	}
	for n := range uint64(1 << 15) {
		var w Writer
		w.Number(n)
		if !bytes.Equal(w.Bytes(), binary.AppendUvarint(nil, n)) {
			t.Fatalf("%d: %v", n, w.Bytes())
		}
	}
	for _, n := range numbers() {
		var w Writer
		w.Number(n)
		if b := w.Bytes(); !bytes.Equal(b, binary.AppendUvarint(nil, n)) || len(b) > 10 || w.Len() != len(b) {
			t.Errorf("%d: %v", n, b)
		}
	}
}

// P4.1: an int64 is the number with the same bits; a uint8 is a number; a bool is 0 or 1.
func TestOtherNumbers(t *testing.T) {
	for _, n := range []int64{0, 1, -1, 63, 64, -64, -65, 127, 128, math.MaxInt64, math.MinInt64, math.MinInt64 + 1} {
		var w Writer
		w.Int(n)
		if !bytes.Equal(w.Bytes(), binary.AppendUvarint(nil, uint64(n))) {
			t.Errorf("Int %d: %v", n, w.Bytes())
		}
	}
	for n := range 256 {
		var w Writer
		w.Small(uint8(n))
		if !bytes.Equal(w.Bytes(), binary.AppendUvarint(nil, uint64(n))) {
			t.Errorf("Small %d: %v", n, w.Bytes())
		}
	}
	var w Writer
	w.Bool(false)
	w.Bool(true)
	if !bytes.Equal(w.Bytes(), []byte{0, 1}) {
		t.Errorf("Bool: %v", w.Bytes())
	}
}

// P4.1: a text is the number of its bytes, and these, whatever they are.
func TestTextForm(t *testing.T) {
	for _, s := range []string{"", "a", "ab", "\x00", "\xff\x80\x00", "\u00e9", "A b:#@*", strings.Repeat("x", 127), strings.Repeat("y", 128), strings.Repeat("\x80", 20000)} {
		var w Writer
		w.Text(s)
		if want := append(binary.AppendUvarint(nil, uint64(len(s))), s...); !bytes.Equal(w.Bytes(), want) || w.Len() != len(want) {
			t.Errorf("a text of %d bytes: %v", len(s), w.Bytes())
		}
	}
}

// P4.1: the forms of structs are those of their fields; nothing but the length of texts is looked at.
func TestStructForms(t *testing.T) {
	g := api.Goal{Object: api.Object{Space: "doc", ID: "a"}, Rel: "viewer"}
	u := api.Subject{Object: api.Object{Space: "user", ID: "\xff \x00"}}
	goalForm := "\x03doc\x01a\x06viewer"
	userForm := "\x04user\x03\xff \x00\x00"
	tu := api.Tuple{Goal: g, Subject: u}
	long := strings.Repeat("L", 130)
	for name, x := range map[string]struct {
		write func(w *Writer)
		form  string
	}{
		"Object":         {func(w *Writer) { w.Object(g.Object) }, "\x03doc\x01a"},
		"Goal":           {func(w *Writer) { w.Goal(g) }, goalForm},
		"Subject":        {func(w *Writer) { w.Subject(u) }, userForm},
		"Tuple":          {func(w *Writer) { w.Tuple(tu) }, goalForm + userForm},
		"Change":         {func(w *Writer) { w.Change(api.Change{Tuple: tu}) }, goalForm + userForm + "\x00"},
		"Change, Drop":   {func(w *Writer) { w.Change(api.Change{Tuple: tu, Drop: true}) }, goalForm + userForm + "\x01"},
		"Must":           {func(w *Writer) { w.Must(api.Must{Tuple: tu}) }, goalForm + userForm + "\x00"},
		"Must, Not":      {func(w *Writer) { w.Must(api.Must{Tuple: tu, Not: true}) }, goalForm + userForm + "\x01"},
		"Query":          {func(w *Writer) { w.Query(api.Query{Kind: 200, Goal: g, User: u.Object}) }, "\xc8\x01" + goalForm + "\x04user\x03\xff \x00"},
		"the zero Tuple": {func(w *Writer) { w.Tuple(api.Tuple{}) }, "\x00\x00\x00\x00\x00\x00"},
		"the zero Query": {func(w *Writer) { w.Query(api.Query{}) }, "\x00\x00\x00\x00\x00\x00"},
		"a long field":   {func(w *Writer) { w.Subject(api.Subject{Rel: long}) }, "\x00\x00\x82\x01" + long},
	} {
		var w Writer
		x.write(&w)
		if string(w.Bytes()) != x.form || w.Len() != len(x.form) {
			t.Errorf("%s: %q, want %q", name, w.Bytes(), x.form)
		}
	}
}

// P4.1: each value is put behind the bytes that there are, and Bytes returns new memory without spare capacity.
func TestWriterGrows(t *testing.T) {
	var w Writer
	if w.Len() != 0 || len(w.Bytes()) != 0 {
		t.Error(w.Len(), w.Bytes())
	}
	var all []byte
	rnd := rand.New(rand.NewSource(1))
	for i := range 500 {
		ks := allKinds()
		k := ks[rnd.Intn(len(ks))]
		l := random(rnd, k.parts)
		k.write(&w, l)
		all = append(all, formOf(k.parts, l)...)
		b := w.Bytes()
		if !bytes.Equal(b, all) || w.Len() != len(all) {
			t.Fatalf("value %d, %s %v", i, k.name, l)
		}
		if cap(b) != len(b) {
			t.Fatalf("%d bytes with a capacity of %d", len(b), cap(b))
		}
		other := w.Bytes()
		for j := range b {
			b[j] ^= 255
		}
		if !bytes.Equal(w.Bytes(), all) || !bytes.Equal(other, all) {
			t.Fatal("memory is shared")
		}
	}
}

// P4.1: two writers have nothing to do with each other.
func TestTwoWriters(t *testing.T) {
	var a, b Writer
	for i := range 100 {
		a.Number(uint64(i))
		b.Text("b")
	}
	if a.Len() != 100 || b.Len() != 200 || !bytes.Equal(b.Bytes(), bytes.Repeat([]byte{1, 'b'}, 100)) {
		t.Error(a.Bytes(), b.Bytes())
	}
}

// random returns what parts of a random value hold.
func random(rnd *rand.Rand, parts []part) (l []held) {
	for _, p := range parts {
		if p.text {
			b := make([]byte, rnd.Intn(int(min(p.most, 400))+1))
			rnd.Read(b)
			l = append(l, held{s: string(b)})
			continue
		}
		n := rnd.Uint64() >> rnd.Intn(64)
		if p.most < math.MaxUint64 {
			n %= p.most + 1
		}
		l = append(l, held{n: n})
	}
	return l
}

// P4.2, P4.3: all short lists of some bytes, read as each kind of values at each place.
func TestShortBytes(t *testing.T) {
	ks := allKinds()
	eachBytes([]byte{0, 1, 2, 127, 128, 129, 255}, 4, func(b []byte) {
		for _, k := range ks {
			for from := range len(b) + 1 {
				reading(t, k, b, from)
			}
		}
	})
}

// P4.2, P4.3: lists of bytes that are lengths and texts, read as structs.
func TestShortStructs(t *testing.T) {
	ks := structKinds()
	eachBytes([]byte{0, 1, 128}, 9, func(b []byte) {
		for _, k := range ks {
			reading(t, k, b, 0)
		}
	})
}

// P4.2: bytes of numbers that are long, and too long: each byte in the eighth to the eleventh place.
func TestLongNumbers(t *testing.T) {
	ks := plainKinds()
	for _, low := range []byte{128, 129, 255} {
		for size := 7; size <= 11; size++ {
			for x := range 256 {
				b := append(bytes.Repeat([]byte{low}, size), byte(x))
				for _, rest := range []string{"", "\x00", "\x01", "\x80", "\x01\x01\x01"} {
					for _, k := range ks {
						reading(t, k, append(slices.Clip(b), rest...), 0)
					}
				}
			}
		}
	}
}

// P4.2, P4.3: a number of ten bytes, a tenth byte that is not 1, a last byte that is 0.
func TestTenthByte(t *testing.T) {
	nine := bytes.Repeat([]byte{128}, 9)
	for _, x := range []struct {
		b   []byte
		n   uint64
		at  int
		bad int
		err api.Errno
	}{
		{[]byte{0}, 0, 1, 0, api.OK},
		{[]byte{128, 0}, 0, 0, 1, api.ErrForm},
		{[]byte{128, 128, 0, 1}, 0, 0, 2, api.ErrForm},
		{append(slices.Clip(nine), 1), 1 << 63, 10, 0, api.OK},
		{append(slices.Clip(nine), 0), 0, 0, 9, api.ErrForm},
		{append(slices.Clip(nine), 2), 0, 0, 9, api.ErrForm},
		{append(slices.Clip(nine), 3), 0, 0, 9, api.ErrForm},
		{append(slices.Clip(nine), 129), 0, 0, 9, api.ErrForm},
		{append(slices.Clip(nine), 129, 1), 0, 0, 9, api.ErrForm},
		{append(slices.Clip(nine), 128, 0), 0, 0, 9, api.ErrForm},
		{nine, 0, 0, 9, api.ErrShort},
		{[]byte{}, 0, 0, 0, api.ErrShort},
	} {
		r := Of(x.b)
		n := r.Number()
		bad, err := r.Fault()
		if n != x.n || r.At() != x.at || bad != x.bad || err != x.err {
			t.Errorf("%v: %d, at %d, fault %d %d", x.b, n, r.At(), bad, err)
		}
	}
}

// P4.2: numbers at the edges, read as each kind of values, with some bytes behind them.
func TestNumbersRead(t *testing.T) {
	for _, k := range allKinds() {
		for _, n := range numbers() {
			for _, behind := range []int{0, 1, 16, 17, 300, 301} {
				b := append(binary.AppendUvarint([]byte{7}, n), make([]byte, behind)...)
				reading(t, k, b, 1)
			}
		}
	}
}

// P4.2: the length of a text at the limit and above it, with too few bytes and with more; the limit comes ahead of missing bytes.
func TestTextLimits(t *testing.T) {
	limits := []int{math.MinInt, -2, -1, 0, 1, 2, 3, 16, 17, 127, 128, math.MaxInt}
	lengths := []uint64{0, 1, 2, 3, 4, 15, 16, 17, 18, 126, 127, 128, 129, math.MaxInt64 - 1, math.MaxInt64, 1 << 63, math.MaxUint64}
	for _, limit := range limits {
		most := uint64(max(limit, 0))
		text := kind{"Text", []part{textPart(most)}, func(r *Reader) []held { return ofTexts(r.Text(limit)) }, nil}
		length := kind{"Len", []part{lenPart(most)}, func(r *Reader) []held { return ofNumber(uint64(r.Len(limit))) }, nil}
		for _, n := range lengths {
			for _, there := range []int{0, 1, 2, 3, 4, 15, 16, 17, 18, 127, 128, 130} {
				b := append(binary.AppendUvarint([]byte{0, 0}, n), bytes.Repeat([]byte{255}, there)...)
				reading(t, text, b, 2)
				reading(t, length, b, 2)
			}
		}
	}
	r := Of([]byte{5, 97})
	if s := r.Text(5); s != "" {
		t.Error(s)
	}
	if at, err := r.Fault(); at != 2 || err != api.ErrShort {
		t.Error(at, err)
	}
	r = Of([]byte{5, 97})
	r.Text(4)
	if at, err := r.Fault(); at != 0 || err != api.ErrLimit {
		t.Error(at, err)
	}
}

// P4.2: texts of objects, goals and so on have up to 16 bytes; the first fault counts, and there is no part of a value.
func TestNameLimit(t *testing.T) {
	for _, k := range structKinds() {
		for i, p := range k.parts {
			if !p.text {
				continue
			}
			for _, size := range []int{15, 16, 17, 128} {
				l := fixed(k.parts)
				l[i].s = strings.Repeat("n", size)
				b := formOf(k.parts, l)
				reading(t, k, b, 0)
				reading(t, k, b[:len(b)-1], 0)
				begin := len(formOf(k.parts, l[:i]))
				reading(t, k, b[:begin+1], 0)
				r := Of(b)
				k.read(r)
				if at, err := r.Fault(); size > 16 && (at != begin || err != api.ErrLimit) || size <= 16 && err != api.OK {
					t.Errorf("%s, part %d with %d bytes: fault %d %d", k.name, i, size, at, err)
				}
			}
		}
	}
}

// fixed returns what parts of a value hold that is not zero in any part.
func fixed(parts []part) (l []held) {
	for i, p := range parts {
		if p.text {
			l = append(l, held{s: strings.Repeat(string(rune('a'+i)), int(min(p.most, uint64(i+1))))})
		} else {
			l = append(l, held{n: min(p.most, 1)})
		}
	}
	return l
}

// P4.2: each part of a value with a form that is wrong: the fault is that of the first one.
func TestFirstFault(t *testing.T) {
	wrong := []string{"\x80\x00", "\x80", "\x90\x00", "\x80\x02", "\x11", "\xff\x01", "\xff\xff\xff\xff\xff\xff\xff\xff\xff\x02", "\xff\xff\xff\xff\xff\xff\xff\xff\xff\x01", ""}
	for _, k := range structKinds() {
		l := fixed(k.parts)
		for i := range k.parts {
			begin := formOf(k.parts, l[:i])
			for _, a := range wrong {
				for _, b := range wrong {
					reading(t, k, append(slices.Clip(begin), a+b...), 0)
					reading(t, k, append(slices.Clip(begin), a+"\x01x"+b...), 0)
				}
			}
		}
	}
}

// reads returns all methods that read, each with whether its value is zero.
func reads() []func(r *Reader) bool {
	out := []func(r *Reader) bool{
		func(r *Reader) bool { return r.Object() == api.Object{} },
		func(r *Reader) bool { return r.Goal() == api.Goal{} },
		func(r *Reader) bool { return r.Subject() == api.Subject{} },
		func(r *Reader) bool { return r.Tuple() == api.Tuple{} },
		func(r *Reader) bool { return r.Change() == api.Change{} },
		func(r *Reader) bool { return r.Must() == api.Must{} },
		func(r *Reader) bool { return r.Query() == api.Query{} },
	}
	for _, k := range plainKinds() {
		out = append(out, func(r *Reader) bool { return k.read(r)[0] == held{} })
	}
	return out
}

// P4.2, P4.3: what is read behind a fault is zero, and changes nothing.
func TestBehindFault(t *testing.T) {
	rest := "\x01\x00\x01a\x01b\x01c\x01d\x01e\x01f\x01"
	for _, x := range []struct {
		bytes string
		fails func(r *Reader)
		at    int
		err   api.Errno
	}{
		{"\x80\x00" + rest, func(r *Reader) { r.Number() }, 2, api.ErrForm},
		{"\x80\x02" + rest, func(r *Reader) { r.Small() }, 1, api.ErrForm},
		{"\x02" + rest, func(r *Reader) { r.Bool() }, 1, api.ErrForm},
		{"\x03" + rest, func(r *Reader) { r.Text(2) }, 1, api.ErrLimit},
		{"\x01a\x11" + rest, func(r *Reader) { r.Object() }, 3, api.ErrLimit},
		{"\x01" + rest, func(r *Reader) { r.Len(0) }, 1, api.ErrLimit},
		{"\x7f" + rest, func(r *Reader) { r.Text(1000) }, len(rest) + 2, api.ErrShort},
	} {
		r := Of([]byte("\x05" + x.bytes))
		r.Number()
		x.fails(r)
		place := r.At()
		same := func() bool {
			at, err := r.Fault()
			endAt, endErr := r.End()
			return at == x.at && err == x.err && endAt == x.at && endErr == x.err && r.Failed() && r.At() == place && r.Left() == len(x.bytes)+1-place
		}
		if !same() || r.Left() == 0 {
			at, err := r.Fault()
			t.Errorf("%q: place %d, fault %d %d", x.bytes, place, at, err)
		}
		for i, zero := range reads() {
			if !zero(r) || !same() {
				t.Errorf("%q: method %d behind the fault", x.bytes, i)
			}
		}
	}
}

// P4.2: Of copies the bytes, which the caller may change afterwards, and leaves them as they are.
func TestOfCopies(t *testing.T) {
	room := []byte{1, 3, 'a', 'b', 'c', 2, 9, 9}
	b := room[:6:8]
	r := Of(b)
	for i := range room {
		room[i] = 255
	}
	if n, s, m := r.Number(), r.Text(3), r.Number(); n != 1 || s != "abc" || m != 2 || r.Failed() {
		t.Error(n, s, m)
	}
	if at, err := r.End(); at != 0 || err != api.OK {
		t.Error(at, err)
	}
	if !bytes.Equal(room, bytes.Repeat([]byte{255}, 8)) {
		t.Error(room)
	}
	same := []byte{2, 'x', 'y'}
	r1, r2 := Of(same), Of(same)
	if s := r1.Text(9); s != "xy" || r2.At() != 0 || r2.Text(9) != "xy" || !bytes.Equal(same, []byte{2, 'x', 'y'}) {
		t.Error("two readers of the same bytes")
	}
	w := &Writer{}
	w.Text("abc")
	r = Of(w.Bytes())
	w.Text("d")
	if s := r.Text(3); s != "abc" || r.Left() != 0 {
		t.Error(s)
	}
}

// P4.3: the place, what is left, and the end.
func TestPlaceAndEnd(t *testing.T) {
	r := Of([]byte{1, 172, 2, 2, 'a', 'b', 0})
	step := func(at int) {
		t.Helper()
		if r.At() != at || r.Left() != 7-at || r.Failed() {
			t.Error(r.At(), r.Left(), r.Failed())
		}
		if bad, err := r.Fault(); bad != 0 || err != api.OK {
			t.Error(bad, err)
		}
		bad, err := r.End()
		if at < 7 && (bad != at || err != api.ErrForm) || at == 7 && (bad != 0 || err != api.OK) {
			t.Error("End", at, bad, err)
		}
	}
	step(0)
	r.Bool()
	step(1)
	r.Number()
	step(3)
	r.Text(2)
	step(6)
	r.Len(0)
	step(7)
	r.Bool()
	if at, err := r.End(); at != 7 || err != api.ErrShort || !r.Failed() || r.At() != 7 || r.Left() != 0 {
		t.Error(at, err)
	}
}

// The zero Writer has no bytes, the zero Reader no bytes and no fault; so have readers of no bytes.
func TestZeroObjects(t *testing.T) {
	var zero Reader
	for _, r := range []*Reader{&zero, Of(nil), Of([]byte{})} {
		if at, err := r.Fault(); r.At() != 0 || r.Left() != 0 || r.Failed() || at != 0 || err != api.OK {
			t.Error(r)
		}
		if at, err := r.End(); at != 0 || err != api.OK {
			t.Error(at, err)
		}
	}
	for i, isZero := range reads() {
		var r Reader
		if at, err := r.Fault(); !isZero(&r) || at != 0 || err != api.OK || r.At() != 0 {
			at, err = r.Fault()
			if at != 0 || err != api.ErrShort {
				t.Error(i, at, err)
			}
		}
		if !r.Failed() {
			t.Error(i)
		}
	}
}

// Methods of a nil Writer do nothing, or return 0 and nothing.
func TestNilWriter(t *testing.T) {
	var w *Writer
	for _, k := range allKinds() {
		k.write(w, fixed(k.parts))
		k.write(w, make([]held, len(k.parts)))
	}
	w.Text("text")
	w.Number(1 << 40)
	if w.Len() != 0 || len(w.Bytes()) != 0 {
		t.Error(w.Len(), w.Bytes())
	}
}

// Methods of a nil Reader return zero values; Failed true; Fault and End 0 and ErrNil.
func TestNilReader(t *testing.T) {
	var r *Reader
	for i, zero := range reads() {
		if !zero(r) {
			t.Error(i)
		}
	}
	if r.At() != 0 || r.Left() != 0 || !r.Failed() {
		t.Error(r.At(), r.Left(), r.Failed())
	}
	if at, err := r.Fault(); at != 0 || err != api.ErrNil {
		t.Error(at, err)
	}
	if at, err := r.End(); at != 0 || err != api.ErrNil {
		t.Error(at, err)
	}
}

// P4.4: what was written is read again, value by value, with nothing left; cut off anywhere it is too short.
func TestWrittenIsRead(t *testing.T) {
	rnd := rand.New(rand.NewSource(2))
	ks := allKinds()
	for range 300 {
		var w Writer
		var order []kind
		var values [][]held
		for range rnd.Intn(6) {
			k := ks[rnd.Intn(len(ks))]
			l := random(rnd, k.parts)
			k.write(&w, l)
			order, values = append(order, k), append(values, l)
		}
		b := w.Bytes()
		r := Of(b)
		for i, k := range order {
			if l := k.read(r); !slices.Equal(l, values[i]) {
				t.Fatalf("%s: %v, want %v", k.name, l, values[i])
			}
		}
		if at, err := r.End(); at != 0 || err != api.OK || r.At() != len(b) {
			t.Fatal(at, err, r.At())
		}
		cuts(t, b, order, max(len(b)/60, 1))
	}
}

// P4.4: all values that are small, with each cut.
func TestEachKindCut(t *testing.T) {
	for _, k := range allKinds() {
		var w Writer
		l := fixed(k.parts)
		k.write(&w, l)
		b := w.Bytes()
		if r := Of(b); !slices.Equal(k.read(r), l) || r.Left() != 0 {
			t.Error(k.name)
		}
		cuts(t, b, []kind{k}, 1)
	}
}

// cuts looks at the faults of bytes that are cut off, at each step of so many bytes.
func cuts(t *testing.T, b []byte, order []kind, step int) {
	t.Helper()
	for cut := 0; cut < len(b); cut += step {
		r := Of(b[:cut])
		for _, k := range order {
			k.read(r)
		}
		if at, err := r.Fault(); at != cut || err != api.ErrShort {
			t.Fatalf("%v: fault %d %d at cut %d", b, at, err, cut)
		}
	}
}

// P4.4: bytes that are read without a fault are those that are written for the value.
func TestOneForm(t *testing.T) {
	ks := allKinds()
	read := map[string]int{}
	look := func(b []byte) {
		for _, k := range ks {
			r := &Reader{bytes: b}
			l := k.read(r)
			if r.Failed() {
				continue
			}
			var w Writer
			k.write(&w, l)
			if !bytes.Equal(w.bytes, b[:r.At()]) {
				t.Fatalf("%s: %v is read from %v, and written as %v", k.name, l, b[:r.At()], w.bytes)
			}
			read[k.name]++
		}
	}
	eachBytes([]byte{0, 1, 2, 3, 128, 255}, 5, look)
	eachBytes([]byte{0, 1}, 10, look)
	for _, k := range ks {
		if read[k.name] < 3 {
			t.Errorf("%s: read %d times", k.name, read[k.name])
		}
	}
}

// The chapter's examples.
func TestExamples(t *testing.T) {
	var w Writer
	number, text := w.Number, w.Text
	number(300)
	w.Int(-1)
	w.Bool(true)
	text("ab")
	if !bytes.Equal(w.Bytes(), []byte{172, 2, 255, 255, 255, 255, 255, 255, 255, 255, 255, 1, 1, 2, 97, 98}) {
		t.Error(w.Bytes())
	}
	if n := Of([]byte{172, 2}).Number(); n != 300 {
		t.Error(n)
	}
	for i, x := range []struct {
		b    []byte
		read func(r *Reader)
		at   int
		err  api.Errno
	}{
		{[]byte{172}, func(r *Reader) { r.Number() }, 1, api.ErrShort},
		{[]byte{128, 0}, func(r *Reader) { r.Number() }, 1, api.ErrForm},
		{[]byte{2}, func(r *Reader) { r.Bool() }, 0, api.ErrForm},
		{[]byte{5, 97}, func(r *Reader) { r.Text(4) }, 0, api.ErrLimit},
		{[]byte{5, 97}, func(r *Reader) { r.Text(5) }, 2, api.ErrShort},
	} {
		r := Of(x.b)
		x.read(r)
		if at, err := r.Fault(); at != x.at || err != x.err {
			t.Error(i, at, err)
		}
	}
	r := Of([]byte{1, 2})
	if b := r.Bool(); !b {
		t.Error(b)
	}
	if at, err := r.End(); at != 1 || err != api.ErrForm {
		t.Error(at, err)
	}
}
