package tests

import (
	"math"
	"testing"

	"loop.example/g00281/impl"
)

// An insField is one of R, A, B and N; it may be from 0 to most.
type insField struct {
	name string
	most int
	unit int
	of   func(x *impl.Ins) *int
}

var insFields = []insField{
	{"R", 3, 16, func(x *impl.Ins) *int { return &x.R }},
	{"A", 3, 64, func(x *impl.Ins) *int { return &x.A }},
	{"B", 3, 256, func(x *impl.Ins) *int { return &x.B }},
	{"N", 63, 1024, func(x *impl.Ins) *int { return &x.N }},
}

// An insOp is a line of chapter 8's list: an op, which of R, A, B and N it
// names, whether it Ends, and how many right places it has.
type insOp struct {
	op    int
	names [4]bool
	ends  bool
	count int
}

var insOps = []insOp{
	{1, [4]bool{true, false, false, true}, false, 4 * 64},
	{2, [4]bool{true, true, true, false}, false, 4 * 4 * 4},
	{3, [4]bool{true, true, false, true}, false, 4 * 4 * 64},
	{4, [4]bool{true, true, false, true}, false, 4 * 4 * 64},
	{5, [4]bool{false, true, true, true}, false, 4 * 4 * 64},
	{6, [4]bool{true, true, true, true}, false, 4 * 4 * 4 * 64},
	{7, [4]bool{false, true, false, true}, true, 4 * 64},
	{8, [4]bool{false, false, false, true}, true, 64},
	{9, [4]bool{false, false, false, false}, true, 1},
	{10, [4]bool{true, true, true, false}, false, 4 * 4 * 4},
}

// noOps are numbers of no op; some are one behind a turn of 16, 256 or 65536.
var noOps = append([]int{0, 11, 12, 13, 14, 15, 16, 17, 26, 257, 266, 65537, -5, -10, -15}, farNumbers...)

// beyond are numbers that no field may be, and that a program could take for
// such as one may be: they come to them by a mask, or by a product that wraps.
var beyond = append([]int{64, 65, 128, 256, 65536, -2, -3, -4, -64, -65536, 1 << 54, 1 << 58, 1 << 60, 1 << 62, math.MinInt / 2}, farNumbers...)

func withField(x impl.Ins, f insField, n int) impl.Ins {
	*f.of(&x) = n
	return x
}

// sumOf is the word of a right place as the document has it, and any number of
// another one.
func sumOf(x impl.Ins) int { return x.Op + 16*x.R + 64*x.A + 256*x.B + 1024*x.N }

// cornersOf are the right places of an op in which each field that it names is
// the least or the greatest that it may be.
func cornersOf(o insOp) []impl.Ins {
	list := []impl.Ins{{Op: o.op}}
	for i, f := range insFields {
		if !o.names[i] {
			continue
		}
		for _, x := range list {
			list = append(list, withField(x, f, f.most))
		}
	}
	return list
}

// placesOf are all right places of an op, with the word of each.
func placesOf(o insOp) map[impl.Ins]int {
	all := map[impl.Ins]int{{Op: o.op}: o.op}
	for i, f := range insFields {
		if !o.names[i] {
			continue
		}
		more := map[impl.Ins]int{}
		for x, w := range all {
			for n := range f.most + 1 {
				more[withField(x, f, n)] = w + n*f.unit
			}
		}
		all = more
	}
	return all
}

// wantPlace asks all four functions of a right place.
func wantPlace(t *testing.T, x impl.Ins, word int, ends bool) {
	t.Helper()
	if !impl.InsOk(x) {
		t.Errorf("InsOk(%+v) is false", x)
	}
	if w, ok := impl.Code(x); !ok || w != word {
		t.Errorf("Code(%+v) is %d, %v, not %d", x, w, ok, word)
	}
	if y, ok := impl.Decode(word); !ok || y != x {
		t.Errorf("Decode(%d) is %+v, %v, not %+v", word, y, ok, x)
	}
	if impl.Ends(x) != ends {
		t.Errorf("Ends(%+v) is not %v", x, ends)
	}
}

// wantNoPlace asks the three that take a place of one that is not InsOk.
func wantNoPlace(t *testing.T, x impl.Ins) {
	t.Helper()
	if impl.InsOk(x) {
		t.Errorf("InsOk(%+v) is true", x)
	}
	if w, ok := impl.Code(x); ok || w != 0 {
		t.Errorf("Code(%+v) is %d, %v, not 0 and false", x, w, ok)
	}
	if !impl.Ends(x) {
		t.Errorf("Ends(%+v) is false", x)
	}
}

func wantNoWord(t *testing.T, w int) {
	t.Helper()
	if x, ok := impl.Decode(w); ok || x != (impl.Ins{}) {
		t.Errorf("Decode(%d) is %+v, %v, not zero and false", w, x, ok)
	}
}

func TestInsConstants(t *testing.T) {
	ops := [...]int{impl.InSet, impl.InAdd, impl.InMore, impl.InLoad, impl.InStore, impl.InSwap, impl.InZero, impl.InJump, impl.InHalt, impl.InSub}
	if ops != [...]int{1, 2, 3, 4, 5, 6, 7, 8, 9, 10} {
		t.Error("ops", ops)
	}
	if impl.Cells != 24 {
		t.Error("Cells", impl.Cells)
	}
}

// Words written out here by hand: no rule of the program's is in them.
func TestPlacesAndTheirWords(t *testing.T) {
	cases := []struct {
		x    impl.Ins
		word int
		ends bool
	}{
		{impl.Ins{Op: impl.InSet}, 1, false},
		{impl.Ins{Op: impl.InSet, R: 2, N: 5}, 5153, false},
		{impl.Ins{Op: impl.InAdd, R: 1, A: 2, B: 3}, 914, false},
		{impl.Ins{Op: impl.InMore, R: 3, A: 3, N: 1}, 1267, false},
		{impl.Ins{Op: impl.InLoad, R: 1, A: 0, N: 23}, 23572, false},
		{impl.Ins{Op: impl.InStore, A: 1, B: 2, N: 24}, 25157, false},
		{impl.Ins{Op: impl.InSwap, R: 3, A: 3, B: 3, N: 63}, 65526, false},
		{impl.Ins{Op: impl.InSwap, R: 3, A: 0, B: 1, N: 20}, 20790, false},
		{impl.Ins{Op: impl.InZero, A: 2, N: 7}, 7303, true},
		{impl.Ins{Op: impl.InJump, N: 63}, 64520, true},
		{impl.Ins{Op: impl.InHalt}, 9, true},
		{impl.Ins{Op: impl.InSub, R: 3, A: 3, B: 3}, 1018, false},
	}
	for _, c := range cases {
		wantPlace(t, c.x, c.word, c.ends)
	}
}

func TestPlacesAtTheirLeastAndGreatest(t *testing.T) {
	for _, o := range insOps {
		for _, x := range cornersOf(o) {
			wantPlace(t, x, sumOf(x), o.ends)
		}
	}
}

// One field alone is off, whatever the others are.
func TestPlacesWithAFieldOutOfBounds(t *testing.T) {
	for _, o := range insOps {
		for _, x := range cornersOf(o) {
			for i, f := range insFields {
				bad := append([]int{-1, f.most + 1}, beyond...)
				if !o.names[i] {
					bad = append(bad, 1, f.most)
				}
				for _, n := range bad {
					wantNoPlace(t, withField(x, f, n))
				}
			}
		}
	}
}

func TestPlacesWithFieldsThatAreNotNamed(t *testing.T) {
	for _, o := range insOps {
		for x := range placesOf(o) {
			for i, f := range insFields {
				if o.names[i] {
					continue
				}
				if y := withField(x, f, 0); !impl.InsOk(y) {
					t.Errorf("InsOk(%+v) is false", y)
				}
				wantNoPlace(t, withField(x, f, 1))
				wantNoPlace(t, withField(x, f, -1))
			}
		}
	}
}

// Two fields that are off don't make each other good: not in sum, and not as
// two that are the same.
func TestPlacesWithTwoFieldsOff(t *testing.T) {
	for _, o := range insOps {
		for i, f := range insFields {
			for j, g := range insFields[:i] {
				if o.names[i] && o.names[j] {
					continue
				}
				for _, n := range []int{1, -1, f.unit / g.unit} {
					x := impl.Ins{Op: o.op}
					wantNoPlace(t, withField(withField(x, f, n), g, n))
					wantNoPlace(t, withField(withField(x, f, 1), g, -n))
					wantNoPlace(t, withField(withField(x, f, -1), g, n))
				}
			}
		}
	}
}

func TestPlacesOfNoOp(t *testing.T) {
	wantNoPlace(t, impl.Ins{})
	for _, op := range noOps {
		for _, o := range insOps {
			for _, x := range cornersOf(o) {
				x.Op = op
				wantNoPlace(t, x)
			}
		}
		for _, n := range append([]int{0, 1}, beyond...) {
			wantNoPlace(t, impl.Ins{Op: op, R: n, A: n, B: n, N: n})
		}
	}
}

// An op that Ends does so whether or not the rest of it is right; one that does
// not, only where it is not right.
func TestEnds(t *testing.T) {
	for _, o := range insOps {
		for x := range placesOf(o) {
			if impl.Ends(x) != o.ends {
				t.Errorf("Ends(%+v) is not %v", x, o.ends)
			}
		}
		for _, n := range append([]int{-1, 64}, farNumbers...) {
			for _, f := range insFields {
				if x := withField(impl.Ins{Op: o.op}, f, n); !impl.Ends(x) {
					t.Errorf("Ends(%+v) is false", x)
				}
			}
		}
	}
}

// The promise: every right place is read from its word as it was, and no word
// is that of two.
func TestEveryPlaceIsReadAsItWas(t *testing.T) {
	seen := map[int]impl.Ins{}
	for _, o := range insOps {
		all := placesOf(o)
		if len(all) != o.count {
			t.Errorf("op %d has %d places here, not %d", o.op, len(all), o.count)
		}
		for x, word := range all {
			wantPlace(t, x, word, o.ends)
			if word < 0 || word > impl.MaxWord {
				t.Errorf("Code(%+v) is no word: %d", x, word)
			}
			if y, double := seen[word]; double {
				t.Errorf("%d is the word of %+v and of %+v", word, x, y)
			}
			seen[word] = x
		}
	}
}

// And the other way round: each word is that of the place that is read, or of
// none at all.
func TestEveryWordIsReadAsItsPlace(t *testing.T) {
	places := map[int]impl.Ins{}
	for _, o := range insOps {
		for x, word := range placesOf(o) {
			places[word] = x
		}
	}
	read := 0
	for w := range impl.MaxWord + 1 {
		want, right := places[w]
		x, ok := impl.Decode(w)
		if ok != right || x != want {
			t.Errorf("Decode(%d) is %+v, %v, not %+v, %v", w, x, ok, want, right)
			continue
		}
		if !ok {
			continue
		}
		read++
		if back, ok := impl.Code(x); !ok || back != w {
			t.Errorf("Code(Decode(%d)) is %d, %v", w, back, ok)
		}
	}
	if read != 7873 {
		t.Error("words that are read:", read)
	}
}

// Every op and every field as wide as a word has room for: InsOk is what is
// read from a word, no more and no less.
func TestInsOkIsWhatAWordTells(t *testing.T) {
	for w := range impl.MaxWord + 1 {
		x := impl.Ins{Op: w & 15, R: w >> 4 & 3, A: w >> 6 & 3, B: w >> 8 & 3, N: w >> 10}
		y, ok := impl.Decode(w)
		if ok != impl.InsOk(x) || ok && y != x {
			t.Errorf("Decode(%d) is %+v, %v, and InsOk(%+v) is %v", w, y, ok, x, impl.InsOk(x))
		}
	}
}

func TestDecodeOfWhatIsNoPlace(t *testing.T) {
	bad := append([]int{0, 11, 12, 13, 14, 15, 16, impl.MaxWord - 4, impl.MaxWord, impl.MaxWord + 1, impl.MaxWord + 2, impl.MaxSeq}, farNumbers...)
	// A field that is not named is not 0: in B of InSet, InMore and InLoad, in R of InStore, ..
	bad = append(bad, 1+64, 1+256, 2+1024, 3+256, 4+256, 5+16, 7+16, 7+256, 8+16, 8+64, 8+256, 9+16, 9+64, 9+256, 9+1024, 10+1024)
	for _, w := range bad {
		wantNoWord(t, w)
	}
}

// No number is taken for the word that is left of it.
func TestDecodeOfNumbersBeyondWords(t *testing.T) {
	for _, o := range insOps {
		for _, x := range cornersOf(o) {
			word := sumOf(x)
			for _, turn := range []int{1, 2, 3, 1 << 16, 1 << 32, 1 << 46} {
				wantNoWord(t, word+turn*(impl.MaxWord+1))
				wantNoWord(t, word-turn*(impl.MaxWord+1))
			}
			wantNoWord(t, -word)
			wantNoWord(t, math.MinInt+word)
			wantNoWord(t, math.MaxInt-impl.MaxWord+word)
		}
	}
}

// answersOf are what the functions of the chapter answer of one place and word.
type answersOf struct {
	ok, coded, read, ends bool
	word                  int
	place                 impl.Ins
}

func askPlaces(x impl.Ins, w int) answersOf {
	var a answersOf
	a.ok = impl.InsOk(x)
	a.word, a.coded = impl.Code(x)
	a.place, a.read = impl.Decode(w)
	a.ends = impl.Ends(x)
	return a
}

// Nothing is kept: what was asked ahead of a call is not seen in its answer.
func TestPlacesAreAnsweredTheSameAgain(t *testing.T) {
	var places []impl.Ins
	for _, o := range insOps {
		for _, x := range cornersOf(o) {
			places = append(places, x, withField(x, insFields[0], -1), withField(x, insFields[3], 64))
		}
	}
	for _, op := range noOps {
		places = append(places, impl.Ins{Op: op}, impl.Ins{Op: op, R: op, A: op, B: op, N: op})
	}
	first := make([]answersOf, len(places))
	for i, x := range places {
		first[i] = askPlaces(x, sumOf(x))
	}
	for i := len(places) - 1; i >= 0; i-- {
		x := places[i]
		for range 2 {
			if again := askPlaces(x, sumOf(x)); again != first[i] {
				t.Errorf("%+v and %d are answered by %+v, and again by %+v", x, sumOf(x), first[i], again)
			}
		}
	}
}
