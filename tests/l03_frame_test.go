package tests

import (
	"math"
	"math/rand"
	"slices"
	"testing"

	"loop.example/g00281/impl"
)

var frameStates = []int{impl.StNone, impl.StRead, impl.StWrite}

// farNumbers are none of anything that a frame counts.
var farNumbers = []int{-1, math.MinInt, math.MinInt + 1, math.MaxInt - 1, math.MaxInt}

func sameFrame(a, b impl.Frame) bool {
	return a.State == b.State && a.Asked == b.Asked && slices.Equal(a.List, b.List)
}

// frameOf is a right frame of that state, with those words where it may have any.
func frameOf(state int, asked bool, words ...int) impl.Frame {
	f := impl.Frame{State: state, Asked: asked}
	if state != impl.StNone {
		f.List = slices.Clone(words)
	}
	return f
}

// rightFrames are such of each state, asked and not asked.
func rightFrames() []impl.Frame {
	var list []impl.Frame
	for _, state := range frameStates {
		for _, asked := range []bool{false, true} {
			list = append(list,
				frameOf(state, asked, 11, 22, 33, 44),
				frameOf(state, asked, 0, 0, 0, 0),
				frameOf(state, asked, impl.MaxWord, impl.MaxWord, impl.MaxWord, impl.MaxWord),
				frameOf(state, asked, 0, impl.MaxWord, 1, impl.MaxWord-1))
		}
	}
	return append(list, impl.Frame{List: []int{}}, impl.Frame{List: []int{}, Asked: true})
}

// wrongFrames are such that are not FrameOk, most of them for one reason alone.
func wrongFrames() []impl.Frame {
	var list []impl.Frame
	for _, asked := range []bool{false, true} {
		for _, state := range append([]int{impl.StNone - 1, impl.StWrite + 1, 256, impl.MaxSeq}, farNumbers...) {
			list = append(list,
				impl.Frame{State: state, Asked: asked},
				impl.Frame{State: state, Asked: asked, List: []int{}},
				impl.Frame{State: state, Asked: asked, List: []int{1, 2, 3, 4}})
		}
		for size := 1; size <= 2*impl.Words; size++ {
			list = append(list, impl.Frame{State: impl.StNone, Asked: asked, List: make([]int, size)})
		}
		for _, state := range []int{impl.StRead, impl.StWrite} {
			list = append(list, impl.Frame{State: state, Asked: asked}, impl.Frame{State: state, Asked: asked, List: []int{}})
			for _, size := range []int{1, impl.Words - 1, impl.Words + 1, 2 * impl.Words} {
				list = append(list, impl.Frame{State: state, Asked: asked, List: make([]int, size)})
			}
			for place := range impl.Words {
				for _, w := range append([]int{impl.MaxWord + 1}, farNumbers...) {
					f := frameOf(state, asked, 1, 2, 3, 4)
					f.List[place] = w
					list = append(list, f)
				}
			}
		}
		// Such as a program could take for no words at all.
		for _, state := range append([]int{9}, frameStates...) {
			list = append(list,
				impl.Frame{State: state, Asked: asked, List: []int{-1}},
				impl.Frame{State: state, Asked: asked, List: []int{-1, 0, 0, 0}},
				impl.Frame{State: state, Asked: asked, List: []int{-1, -1, -1, -1}})
		}
	}
	return list
}

func TestFrameConstants(t *testing.T) {
	if !slices.Equal(frameStates, []int{0, 1, 2}) {
		t.Error("states", frameStates)
	}
}

func TestFrameOk(t *testing.T) {
	for _, f := range append(rightFrames(), impl.Frame{}) {
		if !impl.FrameOk(f) {
			t.Errorf("FrameOk(%v) is false", f)
		}
	}
	for _, f := range wrongFrames() {
		if impl.FrameOk(f) {
			t.Errorf("FrameOk(%v) is true", f)
		}
	}
}

func TestFrameOkByStateAndSize(t *testing.T) {
	for state := -2; state <= 4; state++ {
		for size := range 2*impl.Words + 1 {
			want := state == 0 && size == 0 || (state == 1 || state == 2) && size == impl.Words
			f := impl.Frame{State: state, List: make([]int, size)}
			if impl.FrameOk(f) != want {
				t.Errorf("FrameOk of State %d and %d words is not %v", state, size, want)
			}
			// What lies in the spare room behind a list is none of it.
			f.List = make([]int, size, 3*impl.Words)
			if impl.FrameOk(f) != want {
				t.Errorf("FrameOk of State %d, %d words and spare room is not %v", state, size, want)
			}
		}
	}
}

func wantRead(t *testing.T, f impl.Frame, i int, want int, wantOk bool) {
	t.Helper()
	if got, ok := impl.FrameRead(f, i); got != want || ok != wantOk {
		t.Errorf("FrameRead(%v, %d) is %d, %v, not %d, %v", f, i, got, ok, want, wantOk)
	}
}

func TestFrameRead(t *testing.T) {
	for _, f := range rightFrames() {
		for i := range impl.Words {
			if f.State == impl.StNone {
				wantRead(t, f, i, 0, false)
			} else {
				wantRead(t, f, i, f.List[i], true)
			}
		}
		for _, i := range append([]int{-impl.Words, impl.Words, impl.Words + 1, 256}, farNumbers...) {
			wantRead(t, f, i, 0, false)
		}
	}
}

func TestFrameReadOfWrongFrames(t *testing.T) {
	for _, f := range wrongFrames() {
		for i := -1; i <= 2*impl.Words; i++ {
			wantRead(t, f, i, 0, false)
		}
		for _, i := range farNumbers {
			wantRead(t, f, i, 0, false)
		}
	}
}

// wantWritten asks that w is word i then, and that all else is as it was.
func wantWritten(t *testing.T, f impl.Frame, i int, w int) {
	t.Helper()
	got, ok := impl.FrameWrite(f, i, w)
	want := impl.Frame{State: f.State, List: slices.Clone(f.List), Asked: f.Asked}
	want.List[i] = w
	if !ok || !sameFrame(got, want) {
		t.Errorf("FrameWrite(%v, %d, %d) is %v, %v, not %v", f, i, w, got, ok, want)
		return
	}
	if !impl.FrameOk(got) {
		t.Errorf("FrameWrite(%v, %d, %d) is no longer FrameOk", f, i, w)
	}
	for place := range impl.Words {
		wantRead(t, got, place, want.List[place], true)
	}
}

func wantNotWritten(t *testing.T, f impl.Frame, i int, w int) {
	t.Helper()
	if got, ok := impl.FrameWrite(f, i, w); ok || !sameFrame(got, f) {
		t.Errorf("FrameWrite(%v, %d, %d) is %v, %v, not as it was and false", f, i, w, got, ok)
	}
}

var someWords = []int{0, 1, 22, 127, 128, 32768, impl.MaxWord - 1, impl.MaxWord}

var noWordAtAll = append([]int{impl.MaxWord + 1, impl.MaxWord + 2, impl.MaxSeq}, farNumbers...)

var noPlaceAtAll = append([]int{-impl.Words, impl.Words, impl.Words + 1, 256}, farNumbers...)

func TestFrameWrite(t *testing.T) {
	for _, f := range rightFrames() {
		for i := range impl.Words {
			for _, w := range someWords {
				if f.State == impl.StWrite {
					wantWritten(t, f, i, w)
				} else {
					wantNotWritten(t, f, i, w)
				}
			}
		}
	}
}

func TestFrameWriteOfWrongThings(t *testing.T) {
	for _, f := range rightFrames() {
		for i := range impl.Words {
			for _, w := range noWordAtAll {
				wantNotWritten(t, f, i, w)
			}
		}
		for _, i := range noPlaceAtAll {
			for _, w := range append([]int{5}, noWordAtAll...) {
				wantNotWritten(t, f, i, w)
			}
		}
	}
	for _, f := range wrongFrames() {
		for i := -1; i <= 2*impl.Words; i++ {
			for _, w := range []int{0, 7, impl.MaxWord, impl.MaxWord + 1, -1} {
				wantNotWritten(t, f, i, w)
			}
		}
		for _, far := range farNumbers {
			wantNotWritten(t, f, far, far)
		}
	}
}

// A write that is right does not mend a frame that is not: the wrong word is
// written over here.
func TestFrameWriteMendsNothing(t *testing.T) {
	for place := range impl.Words {
		f := frameOf(impl.StWrite, false, 1, 2, 3, 4)
		f.List[place] = impl.MaxWord + 1
		wantNotWritten(t, f, place, 5)
	}
	wantNotWritten(t, impl.Frame{State: impl.StWrite, List: []int{1, 2, 3}}, 3, 5)
	wantNotWritten(t, impl.Frame{State: impl.StWrite, List: make([]int, 3, 8)}, 3, 5)
}

func wantHeard(t *testing.T, f impl.Frame, m impl.Msg, want impl.Frame, wantTold impl.Msg, wantOk bool) {
	t.Helper()
	got, told, ok := impl.FrameHear(f, m)
	if ok != wantOk || !sameFrame(got, want) || !sameMsg(told, wantTold) {
		t.Errorf("FrameHear(%v, %v) is %v, %v, %v, not %v, %v, %v", f, m, got, told, ok, want, wantTold, wantOk)
	}
	if impl.FrameOk(f) != impl.FrameOk(got) {
		t.Errorf("FrameHear(%v, %v) is %v: FrameOk turned", f, m, got)
	}
	if ok && !impl.MsgOk(told) {
		t.Errorf("FrameHear(%v, %v) tells %v, which is not MsgOk", f, m, told)
	}
}

func wantUnheard(t *testing.T, f impl.Frame, m impl.Msg) {
	t.Helper()
	wantHeard(t, f, m, f, impl.Msg{}, false)
}

// What is heard is written out here by hand: no rule of the program's is in it.
func TestFrameHears(t *testing.T) {
	const none, read, write = impl.StNone, impl.StRead, impl.StWrite
	data := impl.Msg{Kind: impl.MgData, Page: 4, List: []int{5, 0, impl.MaxWord, 8}}
	dataOwn := impl.Msg{Kind: impl.MgData, Page: 4, Own: true, List: []int{5, 0, impl.MaxWord, 8}}
	gone := impl.Msg{Kind: impl.MgGone, Page: 4}
	fetch := impl.Msg{Kind: impl.MgFetch, Page: 4}
	fetchOwn := impl.Msg{Kind: impl.MgFetch, Page: 4, Own: true}
	ack := impl.Msg{Kind: impl.MgAck, Page: 4}
	back := impl.Msg{Kind: impl.MgBack, Page: 4, List: []int{1, impl.MaxWord, 0, 4}}
	cases := []struct {
		state     int
		heard     impl.Msg
		then      int
		words     []int
		keepsAsk  bool
		told      impl.Msg
		something bool
	}{
		{none, data, read, data.List, false, impl.Msg{}, false},
		{read, data, read, data.List, false, impl.Msg{}, false},
		{write, data, read, data.List, false, impl.Msg{}, false},
		{none, dataOwn, write, data.List, false, impl.Msg{}, false},
		{read, dataOwn, write, data.List, false, impl.Msg{}, false},
		{write, dataOwn, write, data.List, false, impl.Msg{}, false},
		{none, gone, none, nil, true, ack, true},
		{read, gone, none, nil, true, ack, true},
		{write, gone, none, nil, true, ack, true},
		{none, fetch, none, nil, true, impl.Msg{}, false},
		{read, fetch, read, back.List, true, impl.Msg{}, false},
		{write, fetch, read, back.List, true, back, true},
		{none, fetchOwn, none, nil, true, impl.Msg{}, false},
		{read, fetchOwn, read, back.List, true, impl.Msg{}, false},
		{write, fetchOwn, none, nil, true, back, true},
	}
	for _, c := range cases {
		for _, asked := range []bool{false, true} {
			f := frameOf(c.state, asked, back.List...)
			then := impl.Frame{State: c.then, List: c.words, Asked: asked && c.keepsAsk}
			wantHeard(t, f, c.heard, then, c.told, c.something)
		}
	}
}

// A frame does not know its number: what it tells is of the page of what it heard.
func TestFrameTellsOfThePageThatWasAskedFor(t *testing.T) {
	for page := range impl.Pages {
		for _, state := range frameStates {
			f := frameOf(state, true, 4, 3, 2, 1)
			_, told, ok := impl.FrameHear(f, impl.Msg{Kind: impl.MgGone, Page: page})
			if !ok || !sameMsg(told, impl.Msg{Kind: impl.MgAck, Page: page}) {
				t.Error("gone", page, told, ok)
			}
		}
		for _, own := range []bool{false, true} {
			f := frameOf(impl.StWrite, false, 4, 3, 2, 1)
			_, told, ok := impl.FrameHear(f, impl.Msg{Kind: impl.MgFetch, Page: page, Own: own})
			if !ok || !sameMsg(told, impl.Msg{Kind: impl.MgBack, Page: page, List: []int{4, 3, 2, 1}}) {
				t.Error("fetch", page, told, ok)
			}
		}
	}
}

// forHome says of which kinds the document has nothing for a frame to do.
func forHome(kind int) bool {
	return kind == impl.MgShare || kind == impl.MgOwn || kind == impl.MgAck || kind == impl.MgBack
}

func TestFrameHearsNothingOfOtherKinds(t *testing.T) {
	for _, f := range rightFrames() {
		for _, kind := range wireKinds {
			if !forHome(kind) {
				continue
			}
			for page := range impl.Pages {
				m := rightMsg(kind)
				m.Page = page
				wantUnheard(t, f, m)
			}
		}
	}
}

// wrongHeard are messages that are not MsgOk, most of them of a kind that a
// frame hears.
func wrongHeard() []impl.Msg {
	list := slices.Clone(wrongMsgs)
	for _, kind := range []int{impl.MgData, impl.MgGone, impl.MgFetch} {
		for _, page := range append([]int{impl.Pages, impl.MaxSeq}, farNumbers...) {
			m := rightMsg(kind)
			m.Page = page
			list = append(list, m)
		}
	}
	for _, own := range []bool{false, true} {
		for size := range 2*impl.Words + 1 {
			if size != impl.Words {
				list = append(list, impl.Msg{Kind: impl.MgData, Own: own, List: make([]int, size)})
			}
			if size > 0 {
				list = append(list, impl.Msg{Kind: impl.MgFetch, Own: own, List: make([]int, size)}, impl.Msg{Kind: impl.MgGone, List: make([]int, size)})
			}
		}
		for place := range impl.Words {
			for _, w := range noWordAtAll {
				m := impl.Msg{Kind: impl.MgData, Own: own, List: []int{1, 2, 3, 4}}
				m.List[place] = w
				list = append(list, m)
			}
		}
	}
	return append(list, impl.Msg{Kind: impl.MgGone, Own: true}, impl.Msg{Kind: impl.MgGone, Own: true, List: []int{1, 2, 3, 4}})
}

func TestFrameHearsNothingThatIsWrong(t *testing.T) {
	for _, m := range wrongHeard() {
		for _, f := range append(rightFrames(), wrongFrames()...) {
			wantUnheard(t, f, m)
		}
	}
}

// rightHeard are right messages of all kinds, to own and not.
func rightHeard() []impl.Msg {
	var list []impl.Msg
	for _, kind := range wireKinds {
		m := rightMsg(kind)
		list = append(list, m)
		if hasOwn(kind) {
			m.Own = true
			m.List = slices.Clone(m.List)
			list = append(list, m)
		}
	}
	return list
}

func TestWrongFramesHearNothing(t *testing.T) {
	for _, f := range wrongFrames() {
		for _, m := range rightHeard() {
			wantUnheard(t, f, m)
		}
	}
}

// A pageModel is a page at a node as the promise sees it: the words that were
// written last, and who may read and write.
type pageModel struct {
	t     *testing.T
	frame impl.Frame
	state int
	words [impl.Words]int
	told  int
}

func (p *pageModel) write(i, w int) {
	f, ok := impl.FrameWrite(p.frame, i, w)
	if ok != (p.state == impl.StWrite) {
		p.t.Fatalf("FrameWrite(%v, %d, %d) is %v", p.frame, i, w, ok)
	}
	if ok {
		p.words[i] = w
	}
	p.frame = f
}

func (p *pageModel) data(words [impl.Words]int, own bool) {
	f, told, ok := impl.FrameHear(p.frame, impl.Msg{Kind: impl.MgData, Page: 3, Own: own, List: words[:]})
	if ok || !sameMsg(told, impl.Msg{}) {
		p.t.Fatal("data tells", told)
	}
	p.frame, p.words, p.state = f, words, impl.StRead
	if own {
		p.state = impl.StWrite
	}
}

func (p *pageModel) gone() {
	f, told, ok := impl.FrameHear(p.frame, impl.Msg{Kind: impl.MgGone, Page: 3})
	if !ok || !sameMsg(told, impl.Msg{Kind: impl.MgAck, Page: 3}) {
		p.t.Fatal("gone tells", told, ok)
	}
	p.frame, p.state = f, impl.StNone
}

func (p *pageModel) fetch(own bool) {
	f, told, ok := impl.FrameHear(p.frame, impl.Msg{Kind: impl.MgFetch, Page: 3, Own: own})
	var want impl.Msg
	if p.state == impl.StWrite {
		want = impl.Msg{Kind: impl.MgBack, Page: 3, List: p.words[:]}
		p.state = impl.StRead
		p.told++
		if own {
			p.state = impl.StNone
		}
	}
	if ok != (want.Kind == impl.MgBack) || !sameMsg(told, want) {
		p.t.Fatal("fetch tells", told, ok, "not", want)
	}
	p.frame = f
}

func (p *pageModel) look() {
	p.t.Helper()
	if p.frame.State != p.state || !impl.FrameOk(p.frame) {
		p.t.Fatal("frame", p.frame, "not of State", p.state)
	}
	for i, want := range p.words {
		w, ok := impl.FrameRead(p.frame, i)
		if p.state == impl.StNone {
			want = 0
		}
		if w != want || ok != (p.state != impl.StNone) {
			p.t.Fatalf("FrameRead(%v, %d) is %d, %v, not %d", p.frame, i, w, ok, want)
		}
	}
}

func (p *pageModel) turn(r *rand.Rand) {
	switch r.Intn(12) {
	case 0:
		p.data([impl.Words]int{r.Intn(impl.MaxWord + 1), impl.MaxWord, r.Intn(impl.MaxWord + 1), 0}, r.Intn(3) > 0)
	case 1:
		p.fetch(r.Intn(2) == 0)
	case 2:
		if r.Intn(2) == 0 {
			p.gone()
		}
	default:
		p.write(r.Intn(impl.Words), someWords[r.Intn(len(someWords))])
	}
}

func TestWhatIsWrittenIsReadAndToldBack(t *testing.T) {
	told := 0
	for seed := range 40 {
		r := rand.New(rand.NewSource(int64(seed)))
		p := &pageModel{t: t}
		for range 500 {
			p.turn(r)
			p.look()
		}
		told += p.told
	}
	if told < 200 {
		t.Error("too little was told back to tell anything:", told)
	}
}

// A frameAndMsg is what FrameHear is given, or what it answers.
type frameAndMsg struct {
	F impl.Frame
	M impl.Msg
}

func TestFrameAnswersAreNewMemory(t *testing.T) {
	for _, f := range append(rightFrames(), wrongFrames()...) {
		for _, m := range append(rightHeard(), wrongHeard()...) {
			for _, g := range []frameAndMsg{{f, m}, roomy(frameAndMsg{f, m})} {
				got, told, _ := impl.FrameHear(g.F, g.M)
				wantNew(t, frameAndMsg{got, told}, g)
			}
		}
		for i := -1; i <= impl.Words; i++ {
			for _, w := range []int{0, 9, impl.MaxWord + 1} {
				for _, g := range []impl.Frame{f, roomy(f)} {
					got, _ := impl.FrameWrite(g, i, w)
					wantNew(t, got, g)
				}
			}
		}
	}
}

// The frame that stays to be read and the words that are told back are equal,
// but not one list; and a frame and a message that share one share none then.
func TestFrameAndMessageShareNothing(t *testing.T) {
	f := frameOf(impl.StWrite, true, 1, 2, 3, 4)
	got, told, ok := impl.FrameHear(f, impl.Msg{Kind: impl.MgFetch})
	if !ok || !slices.Equal(got.List, told.List) {
		t.Fatal("fetch", got, told)
	}
	got.List[1] = 77
	if !slices.Equal(told.List, []int{1, 2, 3, 4}) || !slices.Equal(f.List, []int{1, 2, 3, 4}) {
		t.Error("a list is shared", f, told)
	}
	told.List[2] = 88
	if !slices.Equal(got.List, []int{1, 77, 3, 4}) || !slices.Equal(f.List, []int{1, 2, 3, 4}) {
		t.Error("a list is shared", f, got)
	}
	for _, state := range []int{impl.StRead, impl.StWrite} {
		for _, kind := range []int{impl.MgData, impl.MgBack, impl.MgFetch} {
			f := frameOf(state, false, 1, 2, 3, 4)
			m := impl.Msg{Kind: kind, List: f.List}
			got, told, _ := impl.FrameHear(f, m)
			wantNew(t, frameAndMsg{got, told}, frameAndMsg{f, m})
		}
	}
}

func TestFramesWriteIntoNoArgument(t *testing.T) {
	for _, plain := range append(rightFrames(), wrongFrames()...) {
		f := roomy(plain)
		before := whole(f)
		impl.FrameOk(f)
		for i := -1; i <= impl.Words+1; i++ {
			impl.FrameRead(f, i)
			for _, w := range []int{-1, 0, 9, impl.MaxWord, impl.MaxWord + 1} {
				impl.FrameWrite(f, i, w)
			}
		}
		for _, plain := range append(rightHeard(), wrongHeard()...) {
			m := roomy(plain)
			kept := whole(m)
			impl.FrameHear(f, m)
			wantUnwritten(t, m, kept)
		}
		wantUnwritten(t, f, before)
	}
}

// What is done to an answer, and to an argument behind a call, is not seen in
// the other one.
func TestTwoWritesOfOneFrame(t *testing.T) {
	f := frameOf(impl.StWrite, false, 1, 2, 3, 4)
	one, _ := impl.FrameWrite(f, 0, 11)
	two, _ := impl.FrameWrite(f, 3, 22)
	m := impl.Msg{Kind: impl.MgData, List: []int{5, 6, 7, 8}}
	three, _, _ := impl.FrameHear(f, m)
	clear(m.List)
	clear(f.List)
	if !slices.Equal(one.List, []int{11, 2, 3, 4}) || !slices.Equal(two.List, []int{1, 2, 3, 22}) || !slices.Equal(three.List, []int{5, 6, 7, 8}) {
		t.Error(one, two, three)
	}
}
