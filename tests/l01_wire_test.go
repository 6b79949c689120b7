package tests

import (
	"bytes"
	"encoding/binary"
	"math"
	"slices"
	"testing"

	"loop.example/g00281/impl"
)

// The wire form is written out here by hand, so that a fault that MsgBytes
// and MsgOf have in common is seen.
var wireCases = []struct {
	msg   impl.Msg
	bytes []byte
}{
	{impl.Msg{Kind: impl.MgShare, Page: 0}, []byte{1, 0, 0}},
	{impl.Msg{Kind: impl.MgShare, Page: 5}, []byte{1, 5, 0}},
	{impl.Msg{Kind: impl.MgOwn, Page: 3}, []byte{2, 3, 0}},
	{impl.Msg{Kind: impl.MgOwn, Page: 0, List: []int{}}, []byte{2, 0, 0}},
	{impl.Msg{Kind: impl.MgData, Page: 2, Own: true, List: []int{1, 0, 300, 5}}, []byte{3, 2, 1, 1, 0, 172, 2, 5}},
	{impl.Msg{Kind: impl.MgData, Page: 0, List: []int{0, 0, 0, 0}}, []byte{3, 0, 0, 0, 0, 0, 0}},
	{impl.Msg{Kind: impl.MgData, Page: 5, Own: true, List: []int{65535, 65535, 65535, 65535}}, []byte{3, 5, 1, 255, 255, 3, 255, 255, 3, 255, 255, 3, 255, 255, 3}},
	{impl.Msg{Kind: impl.MgGone, Page: 1}, []byte{4, 1, 0}},
	{impl.Msg{Kind: impl.MgAck, Page: 4}, []byte{5, 4, 0}},
	{impl.Msg{Kind: impl.MgFetch, Page: 5}, []byte{6, 5, 0}},
	{impl.Msg{Kind: impl.MgFetch, Page: 0, Own: true}, []byte{6, 0, 1}},
	{impl.Msg{Kind: impl.MgBack, Page: 0, List: []int{127, 128, 16383, 16384}}, []byte{7, 0, 0, 127, 128, 1, 255, 127, 128, 128, 1}},
	{impl.Msg{Kind: impl.MgBack, Page: 5, List: []int{0, 65535, 0, 65535}}, []byte{7, 5, 0, 0, 255, 255, 3, 0, 255, 255, 3}},
}

var wireKinds = []int{impl.MgShare, impl.MgOwn, impl.MgData, impl.MgGone, impl.MgAck, impl.MgFetch, impl.MgBack}

func sameMsg(a, b impl.Msg) bool {
	return a.Kind == b.Kind && a.Page == b.Page && a.Own == b.Own && slices.Equal(a.List, b.List)
}

func hasList(kind int) bool { return kind == impl.MgData || kind == impl.MgBack }

func hasOwn(kind int) bool { return kind == impl.MgData || kind == impl.MgFetch }

// rightMsg is a message of that kind that has all that it must have.
func rightMsg(kind int) impl.Msg {
	m := impl.Msg{Kind: kind, Page: 1}
	if hasList(kind) {
		m.List = []int{1, 2, 3, 4}
	}
	return m
}

func wantNoMsg(t *testing.T, b []byte) {
	t.Helper()
	if m, ok := impl.MsgOf(b); ok || !sameMsg(m, impl.Msg{}) {
		t.Errorf("MsgOf(%v) is %v, %v, not zero and false", b, m, ok)
	}
}

// wantMsg asks whether m is ok, and, where it is not, that it has no bytes.
func wantMsg(t *testing.T, m impl.Msg, want bool) {
	t.Helper()
	if impl.MsgOk(m) != want {
		t.Errorf("MsgOk(%v) is not %v", m, want)
	}
	b := impl.MsgBytes(m)
	if !want {
		if len(b) != 0 {
			t.Errorf("MsgBytes(%v) is %v, not nothing", m, b)
		}
		return
	}
	if got, ok := impl.MsgOf(b); !ok || !sameMsg(got, m) {
		t.Errorf("MsgOf(MsgBytes(%v)) is %v, %v", m, got, ok)
	}
}

func TestWireConstants(t *testing.T) {
	got := []int{impl.MaxWord, impl.Words, impl.Pages, impl.MaxNodes, impl.MaxSeq}
	if !slices.Equal(got, []int{65535, 4, 6, 4, 100000}) {
		t.Error("limits", got)
	}
	if !slices.Equal(wireKinds, []int{1, 2, 3, 4, 5, 6, 7}) {
		t.Error("kinds", wireKinds)
	}
}

func TestMsgIsReadAsItWas(t *testing.T) {
	for _, c := range wireCases {
		if !impl.MsgOk(c.msg) {
			t.Errorf("MsgOk(%v) is false", c.msg)
		}
		if b := impl.MsgBytes(c.msg); !bytes.Equal(b, c.bytes) {
			t.Errorf("MsgBytes(%v) is %v, not %v", c.msg, b, c.bytes)
		}
		if m, ok := impl.MsgOf(c.bytes); !ok || !sameMsg(m, c.msg) {
			t.Errorf("MsgOf(%v) is %v, %v, not %v", c.bytes, m, ok, c.msg)
		}
	}
}

func TestEveryWordIsReadAsItWas(t *testing.T) {
	for w := 0; w <= impl.MaxWord; w++ {
		m := impl.Msg{Kind: impl.MgBack, Page: w % impl.Pages, List: []int{w, impl.MaxWord - w, 0, w}}
		got, ok := impl.MsgOf(impl.MsgBytes(m))
		if !ok || !sameMsg(got, m) {
			t.Fatal(m, got, ok)
		}
	}
}

func TestMsgKinds(t *testing.T) {
	for _, kind := range wireKinds {
		wantMsg(t, rightMsg(kind), true)
	}
	for _, kind := range []int{0, 8, -1, 128 + impl.MgShare, 256 + impl.MgData, impl.MaxSeq, math.MinInt, math.MaxInt} {
		m := rightMsg(kind)
		wantMsg(t, m, false)
		m.List = []int{1, 2, 3, 4}
		wantMsg(t, m, false)
	}
	wantMsg(t, impl.Msg{}, false)
}

func TestMsgPages(t *testing.T) {
	for _, kind := range wireKinds {
		for page := -2; page <= impl.Pages+1; page++ {
			m := rightMsg(kind)
			m.Page = page
			wantMsg(t, m, page >= 0 && page < impl.Pages)
		}
		for _, page := range []int{128, 256, impl.MaxSeq, math.MinInt, math.MaxInt} {
			m := rightMsg(kind)
			m.Page = page
			wantMsg(t, m, false)
		}
	}
}

func TestOwnWithEachKind(t *testing.T) {
	for _, kind := range wireKinds {
		m := rightMsg(kind)
		m.Own = true
		wantMsg(t, m, hasOwn(kind))
	}
}

func TestListWithEachKind(t *testing.T) {
	for _, kind := range wireKinds {
		for _, own := range []bool{false, hasOwn(kind)} {
			for size := 0; size <= 2*impl.Words; size++ {
				m := impl.Msg{Kind: kind, Page: 2, Own: own, List: make([]int, size)}
				wantMsg(t, m, hasList(kind) && size == impl.Words || !hasList(kind) && size == 0)
			}
			m := impl.Msg{Kind: kind, Page: 2, Own: own}
			wantMsg(t, m, !hasList(kind))
		}
	}
}

func TestMsgWords(t *testing.T) {
	for _, kind := range []int{impl.MgData, impl.MgBack} {
		for place := range impl.Words {
			for _, w := range []int{0, 1, 127, 128, 16383, 16384, impl.MaxWord - 1, impl.MaxWord} {
				m := rightMsg(kind)
				m.List[place] = w
				wantMsg(t, m, true)
			}
			for _, w := range []int{-1, impl.MaxWord + 1, impl.MaxSeq, math.MinInt, math.MaxInt} {
				m := rightMsg(kind)
				m.List[place] = w
				wantMsg(t, m, false)
			}
		}
	}
}

func TestPutNum(t *testing.T) {
	cases := []struct {
		n    int
		want []byte
	}{
		{0, []byte{0}},
		{1, []byte{1}},
		{127, []byte{127}},
		{128, []byte{128, 1}},
		{300, []byte{172, 2}},
		{16383, []byte{255, 127}},
		{16384, []byte{128, 128, 1}},
		{impl.MaxWord, []byte{255, 255, 3}},
		{impl.MaxSeq, []byte{160, 141, 6}},
		{impl.MaxSeq + 1, nil},
		{-1, nil},
		{-128, nil},
		{math.MinInt, nil},
		{math.MaxInt, nil},
	}
	for _, c := range cases {
		if got := impl.PutNum(c.n); !bytes.Equal(got, c.want) {
			t.Errorf("PutNum(%d) is %v, not %v", c.n, got, c.want)
		}
	}
}

func TestEveryNumberIsReadAsItWas(t *testing.T) {
	for n := 0; n <= impl.MaxSeq; n++ {
		b := impl.PutNum(n)
		if !bytes.Equal(b, binary.AppendUvarint(nil, uint64(n))) {
			t.Fatalf("PutNum(%d) is %v", n, b)
		}
		long := append(append([]byte{255, 0}, b...), 0, 255)
		if got, next, ok := impl.GetNum(long, 2); !ok || got != n || next != 2+len(b) {
			t.Fatalf("GetNum of %d is %d, %d, %v", n, got, next, ok)
		}
	}
}

// numAt says by the library what GetNum must say.
func numAt(b []byte, at int) (int, int, bool) {
	n, size := binary.Uvarint(b[at:])
	if size <= 0 || n > impl.MaxSeq || size != len(binary.AppendUvarint(nil, n)) {
		return 0, 0, false
	}
	return int(n), at + size, true
}

func wantNum(t *testing.T, b []byte, at int) {
	t.Helper()
	n, next, ok := impl.GetNum(b, at)
	wantN, wantNext, want := numAt(b, at)
	if n != wantN || next != wantNext || ok != want {
		t.Fatalf("GetNum(%v, %d) is %d, %d, %v, not %d, %d, %v", b, at, n, next, ok, wantN, wantNext, want)
	}
}

func TestGetNumOfAllShortBytes(t *testing.T) {
	some := []byte{0, 1, 2, 5, 6, 7, 127, 128, 129, 134, 254, 255}
	for first := range 256 {
		wantNum(t, []byte{byte(first)}, 0)
		for second := range 256 {
			b := []byte{byte(first), byte(second)}
			wantNum(t, b, 0)
			wantNum(t, b, 1)
			for _, third := range some {
				b := []byte{byte(first), byte(second), third}
				wantNum(t, b, 0)
				for _, fourth := range []byte{0, 1, 127, 128} {
					wantNum(t, append(b, fourth), 0)
				}
			}
		}
	}
}

func wantNoNum(t *testing.T, b []byte, at int) {
	t.Helper()
	if n, next, ok := impl.GetNum(b, at); ok || n != 0 || next != 0 {
		t.Errorf("GetNum(%v, %d) is %d, %d, %v, not 0, 0, false", b, at, n, next, ok)
	}
}

func TestGetNumOfWrongBytes(t *testing.T) {
	wrong := [][]byte{
		nil,
		{},
		{128},              // ends too early
		{172},              //
		{255, 255},         //
		{128, 0},           // not the shortest
		{127 + 128, 0},     //
		{172, 130, 0},      //
		{128, 128, 0},      //
		{172, 130, 128, 0}, //
		{161, 141, 6},      // MaxSeq + 1
		{255, 255, 127},    //
		{128, 128, 128, 1}, // too long
		{128, 128, 128, 0},
		{128, 128, 128, 128, 128, 128, 128, 128, 128, 1},
		{129, 128, 128, 128, 128, 128, 128, 128, 128, 2}, // 1, if it wraps round
		{129, 128, 128, 128, 128, 128, 128, 128, 128, 128, 1},
		bytes.Repeat([]byte{128}, 1000),
		append(bytes.Repeat([]byte{255}, 1000), 1),
	}
	for _, b := range wrong {
		wantNoNum(t, b, 0)
		wantNoNum(t, append([]byte{1, 2}, b...), 2)
	}
}

func TestGetNumPlaces(t *testing.T) {
	b := []byte{9, 172, 2, 7}
	for _, at := range []int{-1, -2, -4, 4, 5, 100, math.MinInt, math.MaxInt} {
		wantNoNum(t, b, at)
	}
	for _, at := range []int{-1, 0, 1, math.MinInt, math.MaxInt} {
		wantNoNum(t, nil, at)
	}
	for at := range b {
		wantNum(t, b, at)
	}
	// What lies in the spare room behind a list is none of it.
	wantNoNum(t, b[:1], 1)
	wantNoNum(t, b[:2], 1)
}

func TestMsgOfCutOrLeftOver(t *testing.T) {
	for _, c := range wireCases {
		for end := range c.bytes {
			wantNoMsg(t, c.bytes[:end])
			wantNoMsg(t, slices.Clone(c.bytes[:end]))
		}
		for more := range 256 {
			wantNoMsg(t, append(slices.Clone(c.bytes), byte(more)))
			wantNoMsg(t, append(slices.Clone(c.bytes), byte(more), 0))
		}
		wantNoMsg(t, append(slices.Clone(c.bytes), c.bytes...))
		wantNoMsg(t, append([]byte{0}, c.bytes...))
		wantNoMsg(t, c.bytes[1:])
	}
	wantNoMsg(t, nil)
	wantNoMsg(t, []byte{})
}

// Each number of each message is written in one byte more than it needs.
func TestMsgOfNumbersThatAreNotTheShortest(t *testing.T) {
	for _, c := range wireCases {
		for at := 0; at < len(c.bytes); {
			_, next, ok := numAt(c.bytes, at)
			if !ok {
				t.Fatal("no number", c.bytes, at)
			}
			long := slices.Clone(c.bytes[:next])
			long[next-1] += 128
			long = append(long, 0)
			wantNoMsg(t, append(long, c.bytes[next:]...))
			at = next
		}
	}
}

func TestMsgOfWrongNumbers(t *testing.T) {
	wrong := [][]byte{
		{0, 0, 0},                       // kinds
		{8, 0, 0},                       //
		{129, 1, 0, 0},                  // 129
		{1, 6, 0},                       // pages
		{1, 128, 1, 0},                  // 128
		{1, 0, 1},                       // Own
		{2, 0, 1},                       //
		{4, 0, 1},                       //
		{5, 0, 1},                       //
		{7, 0, 1, 1, 2, 3, 4},           //
		{6, 0, 2},                       // neither 1 nor 0
		{6, 0, 129, 1},                  //
		{3, 0, 2, 1, 2, 3, 4},           //
		{3, 0, 128, 1, 1, 2, 3, 4},      //
		{3, 0, 0},                       // words
		{3, 0, 0, 1, 2, 3},              //
		{3, 0, 0, 1, 2, 3, 4, 5},        //
		{3, 0, 0, 1, 2, 3, 128, 128, 4}, // MaxWord + 1
		{3, 0, 0, 160, 141, 6, 2, 3, 4}, // MaxSeq
		{7, 0, 0, 161, 141, 6, 2, 3, 4}, // MaxSeq + 1
		{7, 0, 0},                       //
		{1, 0, 0, 1, 2, 3, 4},           // a List with other kinds
		{2, 0, 0, 1, 2, 3, 4},           //
		{4, 0, 0, 1, 2, 3, 4},           //
		{5, 0, 0, 1, 2, 3, 4},           //
		{6, 0, 1, 1, 2, 3, 4},           //
		bytes.Repeat([]byte{128}, 1000),
		bytes.Repeat([]byte{1}, 1000),
	}
	for _, b := range wrong {
		wantNoMsg(t, b)
	}
}

// Over many bytes: what is read has just these bytes, and nothing else is read.
func TestMsgOfIsTheInverse(t *testing.T) {
	have := map[string]impl.Msg{}
	for _, kind := range wireKinds {
		for page := range impl.Pages {
			for _, own := range []bool{false, true} {
				m := impl.Msg{Kind: kind, Page: page, Own: own}
				have[string(impl.MsgBytes(m))] = m
			}
		}
	}
	delete(have, "")
	// Share, Own, Gone and Ack of each page, and Fetch to own or not.
	if want := 4*impl.Pages + 2*impl.Pages; len(have) != want {
		t.Error(len(have), "messages without a List, not", want)
	}
	for first := range 256 {
		for second := range 256 {
			for _, third := range []byte{0, 1, 2, 127, 128, 255} {
				b := []byte{byte(first), byte(second), third}
				m, ok := impl.MsgOf(b)
				want, there := have[string(b)]
				if ok != there || !sameMsg(m, want) {
					t.Fatalf("MsgOf(%v) is %v, %v, not %v, %v", b, m, ok, want, there)
				}
			}
		}
	}
}

func TestWireAnswersAreNewMemory(t *testing.T) {
	b := []byte{3, 2, 1, 1, 0, 172, 2, 5}
	first, _ := impl.MsgOf(b)
	second, _ := impl.MsgOf(b)
	clear(b)
	if !slices.Equal(first.List, []int{1, 0, 300, 5}) {
		t.Error("a message hangs on the bytes it was read from")
	}
	clear(first.List)
	if !slices.Equal(second.List, []int{1, 0, 300, 5}) {
		t.Error("two messages share their words")
	}

	m := impl.Msg{Kind: impl.MgBack, Page: 2, List: []int{1, 2, 3, 4}}
	one, two := impl.MsgBytes(m), impl.MsgBytes(m)
	clear(m.List)
	clear(one)
	if !bytes.Equal(two, []byte{7, 2, 0, 1, 2, 3, 4}) {
		t.Error("bytes are shared", two)
	}

	for _, n := range []int{0, 127, 300, impl.MaxSeq} {
		one, two := impl.PutNum(n), impl.PutNum(n)
		for i := range one {
			one[i]++
		}
		want := binary.AppendUvarint(nil, uint64(n))
		if !bytes.Equal(two, want) || !bytes.Equal(impl.PutNum(n), want) {
			t.Error("numbers are shared", n)
		}
	}
}

func TestWireWritesIntoNoArgument(t *testing.T) {
	for _, c := range wireCases {
		room := append(slices.Clone(c.bytes), 77, 78, 79)
		before := slices.Clone(room)
		for end := range len(c.bytes) + 1 {
			impl.MsgOf(room[:end])
			for at := -1; at <= len(room); at++ {
				impl.GetNum(room[:end], at)
			}
		}
		if !bytes.Equal(room, before) {
			t.Error("bytes are written into", before, room)
		}

		words := append(slices.Clone(c.msg.List), 77, 78, 79)
		kept := slices.Clone(words)
		for end := range len(words) + 1 {
			m := c.msg
			m.List = words[:end]
			impl.MsgOk(m)
			impl.MsgBytes(m)
		}
		if !slices.Equal(words, kept) {
			t.Error("words are written into", kept, words)
		}
	}
}
