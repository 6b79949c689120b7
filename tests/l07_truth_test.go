package tests

import (
	"fmt"
	"math/rand"
	"slices"
	"testing"

	"loop.example/g00281/impl"
)

func dataOf(page int, own bool, words ...int) impl.Msg {
	return impl.Msg{Kind: impl.MgData, Page: page, Own: own, List: words}
}

func backOf(page int, words ...int) impl.Msg {
	return impl.Msg{Kind: impl.MgBack, Page: page, List: words}
}

func wantComing(t *testing.T, w impl.World, from, to int, want []impl.Msg) {
	t.Helper()
	if got := impl.Coming(w, from, to); !sameMsgs(got, want) {
		t.Errorf("Coming(%v, %d, %d) is\n%v, not\n%v", w, from, to, got, want)
	}
}

// senders are lines with nothing, one and more queued, at the edges, too.
func senders() []impl.Sender {
	return []impl.Sender{
		{}, {Base: 5}, {Base: impl.MaxSeq}, senderOf(0, 1), senderOf(0, 4), senderOf(9, 1), senderOf(50, 6), senderOf(0, impl.MaxQueue),
		senderOf(300, impl.MaxQueue), senderOf(impl.MaxSeq-1, 1), senderOf(impl.MaxSeq-impl.MaxQueue, impl.MaxQueue),
	}
}

// Of each line what is numbered from what was Got on, whether that is below
// Base, among what is queued, or above all of it.
func TestComing(t *testing.T) {
	for size := 1; size <= impl.MaxNodes; size++ {
		for from := range size {
			for to := range size {
				for _, s := range senders() {
					end := s.Base + len(s.Queue)
					gots := []int{0, 1, s.Base / 2, impl.MaxSeq - 1, impl.MaxSeq}
					for got := s.Base - 2; got <= end+2; got++ {
						gots = append(gots, got)
					}
					for _, got := range gots {
						if got < 0 || got > impl.MaxSeq {
							continue
						}
						first := max(s.Base, got)
						w := withGot(withLine(fullWorld(size), from, to, s), to, from, got)
						wantComing(t, w, from, to, numberedFrom(first, end-first))
					}
				}
			}
		}
	}
}

// Each line has its own, told apart by its messages: those of one can't stand
// for those of another, nor those that go the other way round.
func TestComingOfEachLine(t *testing.T) {
	for size := 1; size <= impl.MaxNodes; size++ {
		w := fullWorld(size)
		for from := range size {
			for to := range size {
				w.Nodes[to].In[from].Got = lineFrom(from, to).Base + 1
			}
		}
		for from := range size {
			for to := range size {
				s := lineFrom(from, to)
				wantComing(t, w, from, to, numberedFrom(s.Base+1, len(s.Queue)-1))
			}
		}
	}
}

func TestComingOfEachKind(t *testing.T) {
	var all []impl.Msg
	for page := range impl.Pages {
		all = append(all, dataOf(page, true, page, 0, impl.MaxWord, 1), impl.Msg{Kind: impl.MgFetch, Page: page, Own: true})
	}
	for _, kind := range wireKinds {
		all = append(all, rightMsg(kind))
	}
	for got := range len(all) + 1 {
		w := withGot(withLine(newWorld(2), 1, 0, impl.Sender{Queue: all}), 0, 1, got)
		wantComing(t, w, 1, 0, all[got:])
		wantComing(t, w, 0, 1, nil)
		wantComing(t, w, 0, 0, nil)
		wantComing(t, w, 1, 1, nil)
	}
}

// What is on its way is still queued: it comes once, and what the net has of
// it is nothing to this.
func TestComingIsNotWhatIsOnItsWay(t *testing.T) {
	w := withLine(newWorld(2), 0, 1, senderOf(0, 2))
	w.Net = []impl.Packet{{From: 0, To: 1, N: 0, Msg: numbered(0)}, {From: 0, To: 1, N: 0, Msg: numbered(0)}, {From: 1, To: 0, N: 0, Msg: numbered(5)}}
	wantComing(t, w, 0, 1, numberedFrom(0, 2))
	wantComing(t, w, 1, 0, nil)
	wantComing(t, withNet(w), 0, 1, numberedFrom(0, 2))
}

// openWorld is a full one in which all that is queued is still coming.
func openWorld(size int) impl.World {
	w := fullWorld(size)
	for id := range size {
		clear(w.Nodes[id].In)
	}
	return w
}

func TestComingOfNoNode(t *testing.T) {
	for size := 1; size <= impl.MaxNodes; size++ {
		w := openWorld(size)
		for _, none := range noNodesOf(size) {
			if none >= 0 && none < size {
				continue
			}
			for who := range size {
				wantComing(t, w, none, who, nil)
				wantComing(t, w, who, none, nil)
			}
			wantComing(t, w, none, none, nil)
		}
		for _, from := range []int{0, size - 1} {
			for _, to := range []int{0, size - 1} {
				wantComing(t, w, from, to, lineFrom(from, to).Queue)
			}
		}
	}
}

func wantTruth(t *testing.T, w impl.World, page int, want []int) {
	t.Helper()
	if got := impl.Truth(w, page); !slices.Equal(got, want) {
		t.Errorf("Truth(%v, %d) is %v, not %v", w, page, got, want)
	}
}

// Words that tell where they come from.
var (
	ofHome  = []int{1, 10, 100, 1000}
	ofFrame = []int{2, 20, 200, 2000}
	ofOther = []int{9, 90, 900, 9000}
	data3   = []int{3, 30, 300, 3000}
	data4   = []int{4, 40, 400, impl.MaxWord}
	data5   = []int{0, 0, 0, 0}
	back6   = []int{6, 60, 600, 6000}
	back7   = []int{7, 70, 700, impl.MaxWord}
	back8   = []int{0, 0, 0, 0}
)

// Of page 0 or, where it says so, of page 1; the test turns these to the page
// that it asks for and to another one.
func ownData(words []int) impl.Msg   { return dataOf(0, true, words...) }
func readData(words []int) impl.Msg  { return dataOf(0, false, words...) }
func otherData(words []int) impl.Msg { return dataOf(1, true, words...) }
func backData(words []int) impl.Msg  { return backOf(0, words...) }
func otherBack(words []int) impl.Msg { return backOf(1, words...) }

func ofPages(list []impl.Msg, page, other int) []impl.Msg {
	var out []impl.Msg
	for _, m := range list {
		m.Page = []int{page, other}[m.Page]
		out = append(out, m)
	}
	return out
}

var plainMsgs = []impl.Msg{{Kind: impl.MgShare}, {Kind: impl.MgOwn}, {Kind: impl.MgGone}, {Kind: impl.MgAck}, {Kind: impl.MgFetch}, {Kind: impl.MgFetch, Own: true}}

// What a page's words are where it has an Owner whose frame is not to write:
// by what is queued from home to Owner and back, and how many of each came.
var comingCases = []struct {
	name  string
	given []impl.Msg
	got   int
	back  []impl.Msg
	heard int
	want  []int
}{
	{"nothing", nil, 0, nil, 0, nil},
	{"given", []impl.Msg{ownData(data3)}, 0, nil, 0, data3},
	{"given noughts", []impl.Msg{ownData(data5)}, 0, nil, 0, data5},
	{"given twice", []impl.Msg{ownData(data3), ownData(data4)}, 0, nil, 0, data4},
	{"given three times", []impl.Msg{ownData(data3), ownData(data4), ownData(data5)}, 0, nil, 0, data5},
	{"given and fetched", []impl.Msg{ownData(data3), {Kind: impl.MgFetch, Own: true}}, 0, nil, 0, data3},
	{"given behind others", append(slices.Clone(plainMsgs), ownData(data4)), 0, nil, 0, data4},
	{"given ahead of others", append([]impl.Msg{ownData(data4)}, plainMsgs...), 0, nil, 0, data4},
	{"given, the first came", []impl.Msg{ownData(data3), ownData(data4)}, 1, nil, 0, data4},
	{"given, another one came", []impl.Msg{{Kind: impl.MgGone}, ownData(data4)}, 1, nil, 0, data4},
	{"given, and it came", []impl.Msg{ownData(data3)}, 1, nil, 0, nil},
	{"given, it came, and others are coming", append([]impl.Msg{ownData(data3)}, plainMsgs...), 1, nil, 0, nil},
	{"given twice, both came", []impl.Msg{ownData(data3), ownData(data4)}, 2, nil, 0, nil},
	{"given, and more came than is queued", []impl.Msg{ownData(data3)}, 5, nil, 0, nil},
	{"to read", []impl.Msg{readData(data3)}, 0, nil, 0, nil},
	{"to read behind to own", []impl.Msg{ownData(data3), readData(data4)}, 0, nil, 0, data3},
	{"to read ahead of to own", []impl.Msg{readData(data4), ownData(data3)}, 0, nil, 0, data3},
	{"to own came, to read is coming", []impl.Msg{ownData(data3), readData(data4)}, 1, nil, 0, nil},
	{"of another page", []impl.Msg{otherData(data3)}, 0, nil, 0, nil},
	{"of another page behind it", []impl.Msg{ownData(data3), otherData(data4)}, 0, nil, 0, data3},
	{"of another page ahead of it", []impl.Msg{otherData(data4), ownData(data3)}, 0, nil, 0, data3},
	{"told back", nil, 0, []impl.Msg{backData(back6)}, 0, back6},
	{"told back noughts", nil, 0, []impl.Msg{backData(back8)}, 0, back8},
	{"told back twice", nil, 0, []impl.Msg{backData(back6), backData(back7)}, 0, back7},
	{"told back three times", nil, 0, []impl.Msg{backData(back6), backData(back7), backData(back8)}, 0, back8},
	{"told back behind others", nil, 0, append(slices.Clone(plainMsgs), backData(back6)), 0, back6},
	{"told back ahead of others", nil, 0, append([]impl.Msg{backData(back6)}, plainMsgs...), 0, back6},
	{"told back, the first came", nil, 0, []impl.Msg{backData(back6), backData(back7)}, 1, back7},
	{"told back, and it came", nil, 0, []impl.Msg{backData(back6)}, 1, nil},
	{"told back, and more came than is queued", nil, 0, []impl.Msg{backData(back6)}, 3, nil},
	{"told back of another page", nil, 0, []impl.Msg{otherBack(back6)}, 0, nil},
	{"told back of another page behind it", nil, 0, []impl.Msg{backData(back6), otherBack(back7)}, 0, back6},
	{"both", []impl.Msg{ownData(data3)}, 0, []impl.Msg{backData(back6)}, 0, data3},
	{"both, more than once", []impl.Msg{ownData(data3), ownData(data4)}, 0, []impl.Msg{backData(back6), backData(back7)}, 0, data4},
	{"both, what was given came", []impl.Msg{ownData(data3)}, 1, []impl.Msg{backData(back6)}, 0, back6},
	{"both, what was told back came", []impl.Msg{ownData(data3)}, 0, []impl.Msg{backData(back6)}, 1, data3},
	{"both, and both came", []impl.Msg{ownData(data3)}, 1, []impl.Msg{backData(back6)}, 1, nil},
	{"both, given to read", []impl.Msg{readData(data3)}, 0, []impl.Msg{backData(back6)}, 0, back6},
	{"both, given another page", []impl.Msg{otherData(data3)}, 0, []impl.Msg{backData(back6)}, 0, back6},
	{"both, told back another page", []impl.Msg{ownData(data3)}, 0, []impl.Msg{otherBack(back6)}, 0, data3},
}

// ownedWorld is one in which that page has an Owner, and the Owner's frame
// that state; no other line than those two has anything.
func ownedWorld(size, page, owner, state int) impl.World {
	w := newWorld(size)
	home := homesOfPages[size][page]
	w.Nodes[home].Homes[page].List = slices.Clone(ofHome)
	w.Nodes[home].Homes[page].Owner = owner
	w.Nodes[owner].Frames[page] = frameOf(state, state == impl.StRead, ofFrame...)
	return w
}

func bases7() []int { return []int{0, 12, impl.MaxSeq - impl.MaxQueue} }

func TestTruthOfWhatIsComing(t *testing.T) {
	for _, c := range comingCases {
		t.Run(c.name, func(t *testing.T) {
			for size := 2; size <= impl.MaxNodes; size++ {
				for page, home := range homesOfPages[size] {
					other := (page + size) % impl.Pages
					for owner := range size {
						if owner == home {
							continue
						}
						for i, base := range bases7() {
							w := ownedWorld(size, page, owner, i%2)
							w = withLine(w, home, owner, impl.Sender{Base: base, Queue: ofPages(c.given, page, other)})
							w = withLine(w, owner, home, impl.Sender{Base: base + 1, Queue: ofPages(c.back, page, other)})
							w = withGot(withGot(w, owner, home, base+c.got), home, owner, base+1+c.heard)
							wantTruth(t, w, page, c.want)
							// What the Owner has to write counts ahead of all of it, and what
							// home has where there is no Owner.
							write := withNode(w, withFrame(w.Nodes[owner], page, frameOf(impl.StWrite, false, ofFrame...)))
							wantTruth(t, write, page, ofFrame)
							wantTruth(t, inWorld(w, func(w *impl.World) { w.Nodes[home].Homes[page].Owner = nobody }), page, ofHome)
							wantTruth(t, inWorld(write, func(w *impl.World) { w.Nodes[home].Homes[page].Owner = nobody }), page, ofHome)
						}
					}
				}
			}
		})
	}
}

// Home and Owner are one node: what is given and what is told back go over
// one line, from that node to itself.
var selfCases = []struct {
	name  string
	queue []impl.Msg
	got   int
	want  []int
}{
	{"nothing", nil, 0, nil},
	{"given", []impl.Msg{ownData(data3)}, 0, data3},
	{"given twice", []impl.Msg{ownData(data3), ownData(data4)}, 0, data4},
	{"given, and it came", []impl.Msg{ownData(data3)}, 1, nil},
	{"told back", []impl.Msg{backData(back6)}, 0, back6},
	{"told back twice", []impl.Msg{backData(back6), backData(back7)}, 0, back7},
	{"told back, and it came", []impl.Msg{backData(back6)}, 1, nil},
	{"given, then told back", []impl.Msg{ownData(data3), backData(back6)}, 0, data3},
	{"told back, then given", []impl.Msg{backData(back6), ownData(data3)}, 0, data3},
	{"given and told back, the first came", []impl.Msg{ownData(data3), backData(back6)}, 1, back6},
	{"told back and given, the first came", []impl.Msg{backData(back6), ownData(data3)}, 1, data3},
	{"given and told back, both came", []impl.Msg{ownData(data3), backData(back6)}, 2, nil},
	{"to read and told back", []impl.Msg{readData(data3), backData(back6), readData(data4)}, 0, back6},
	{"of another page", []impl.Msg{otherData(data3), otherBack(back6)}, 0, nil},
}

func TestTruthWhereHomeIsTheOwner(t *testing.T) {
	for _, c := range selfCases {
		t.Run(c.name, func(t *testing.T) {
			for size := 1; size <= impl.MaxNodes; size++ {
				for page, home := range homesOfPages[size] {
					for i, base := range bases7() {
						w := ownedWorld(size, page, home, i%2)
						w = withLine(w, home, home, impl.Sender{Base: base, Queue: ofPages(c.queue, page, (page+size)%impl.Pages)})
						w = withGot(w, home, home, base+c.got)
						wantTruth(t, w, page, c.want)
						w.Nodes[home].Frames[page] = frameOf(impl.StWrite, true, ofFrame...)
						wantTruth(t, w, page, ofFrame)
						w.Nodes[home].Homes[page].Owner = nobody
						wantTruth(t, w, page, ofHome)
					}
				}
			}
		})
	}
}

// Neither lines between others nor those that go the other way round count,
// nor homes and frames of others, nor what is on its way.
func TestTruthIsOfTheTwoLinesAlone(t *testing.T) {
	for size := 2; size <= impl.MaxNodes; size++ {
		for page, home := range homesOfPages[size] {
			for owner := range size {
				w := ownedWorld(size, page, owner, impl.StNone)
				for from := range size {
					for to := range size {
						var list []impl.Msg
						if from != home || to != owner {
							list = append(list, dataOf(page, true, ofOther...))
						}
						if from != owner || to != home {
							list = append(list, backOf(page, ofOther...))
						}
						w.Nodes[from].Out[to].Queue = list
					}
				}
				for id := range size {
					if id != owner {
						w.Nodes[id].Frames[page] = frameOf(impl.StWrite, false, ofOther...)
					}
					if id != home {
						w.Nodes[id].Homes[page] = homeOf(size, nobody)
					}
				}
				w.Net = []impl.Packet{{From: home, To: owner, Msg: dataOf(page, true, ofOther...)}, {From: owner, To: home, Msg: backOf(page, ofOther...)}}
				wantTruth(t, w, page, nil)
				w.Nodes[owner].Frames[page] = frameOf(impl.StWrite, false, ofFrame...)
				wantTruth(t, w, page, ofFrame)
				w.Nodes[home].Homes[page].Owner = nobody
				wantTruth(t, w, page, ofHome)
			}
		}
	}
}

// Pages are told apart, and so are the homes of each.
func TestTruthOfEachPage(t *testing.T) {
	for size := 1; size <= impl.MaxNodes; size++ {
		w := newWorld(size)
		for page := range impl.Pages {
			for id := range size {
				w.Nodes[id].Homes[page].List = []int{page, id, 0, impl.MaxWord}
			}
			wantTruth(t, w, page, []int{page, homesOfPages[size][page], 0, impl.MaxWord})
		}
		for page, home := range homesOfPages[size] {
			for owner := range size {
				owned := cloneOf(w)
				owned.Nodes[home].Homes[page].Owner = owner
				for at := range impl.Pages {
					owned.Nodes[owner].Frames[at] = frameOf(impl.StWrite, false, 77, at, owner, 0)
				}
				wantTruth(t, owned, page, []int{77, page, owner, 0})
				next := (page + 1) % impl.Pages
				wantTruth(t, owned, next, []int{next, homesOfPages[size][next], 0, impl.MaxWord})
			}
		}
	}
}

func noPages() []int {
	return append([]int{-impl.Pages, -2, impl.Pages, impl.Pages + 1, 2 * impl.Pages, 256}, farNumbers...)
}

func TestTruthOfNoPage(t *testing.T) {
	for size := 1; size <= impl.MaxNodes; size++ {
		for _, w := range append(rightWorlds(size), openWorld(size)) {
			for _, page := range noPages() {
				wantTruth(t, w, page, nil)
				if impl.Alone(w, page) {
					t.Errorf("Alone(%v, %d) is true", w, page)
				}
			}
		}
		for _, page := range []int{0, impl.Pages - 1} {
			wantTruth(t, newWorld(size), page, []int{0, 0, 0, 0})
			if !impl.Alone(newWorld(size), page) {
				t.Error("Alone of page", page, "of a new world is false")
			}
		}
	}
}

// statesOf lists all that the frames of so many nodes may be.
func statesOf(size int) [][]int {
	list := [][]int{nil}
	for range size {
		var longer [][]int
		for _, states := range list {
			for _, state := range frameStates {
				longer = append(longer, append(slices.Clone(states), state))
			}
		}
		list = longer
	}
	return list
}

func countOf(list []int, x int) int {
	count := 0
	for _, y := range list {
		if x == y {
			count++
		}
	}
	return count
}

func TestAlone(t *testing.T) {
	for size := 1; size <= impl.MaxNodes; size++ {
		for page := range impl.Pages {
			for _, states := range statesOf(size) {
				w := newWorld(size)
				for id, state := range states {
					w.Nodes[id].Frames[page] = frameOf(state, id%2 == 0, id, 2, 3, 4)
				}
				want := true
				switch write := countOf(states, impl.StWrite); write {
				case 0:
				case 1:
					want = countOf(states, impl.StRead) == 0
				default:
					want = false
				}
				if impl.Alone(w, page) != want {
					t.Errorf("Alone of page %d at %v is not %v", page, states, want)
				}
				for other := range impl.Pages {
					if other != page && !impl.Alone(w, other) {
						t.Errorf("Alone of page %d is false by what is at %v of page %d", other, states, page)
					}
				}
			}
		}
	}
}

// What home knows of it is nothing to it, nor whether it was asked for.
func TestAloneIsOfFramesAlone(t *testing.T) {
	for size := 2; size <= impl.MaxNodes; size++ {
		for page, home := range homesOfPages[size] {
			w := openWorld(size)
			for id := range size {
				w.Nodes[id].Frames[page] = impl.Frame{Asked: true}
			}
			w.Nodes[home].Homes[page] = homeOf(size, 0, 0, size-1)
			w.Nodes[size-1].Frames[page] = frameOf(impl.StWrite, true, 1, 2, 3, 4)
			if !impl.Alone(w, page) {
				t.Errorf("Alone(%v, %d) is false", w, page)
			}
			w.Nodes[0].Frames[page] = frameOf(impl.StRead, true, 1, 2, 3, 4)
			if impl.Alone(w, page) {
				t.Errorf("Alone(%v, %d) is true", w, page)
			}
		}
	}
}

func wantSane(t *testing.T, w impl.World, want bool) {
	t.Helper()
	if impl.Sane(w) != want {
		t.Errorf("Sane(%v) is not %v", w, want)
	}
}

func wordsOfPage(page int) []int { return []int{page, 100 + page, 0, impl.MaxWord - page} }

// saneWorld is one with other words in each page, which nobody has.
func saneWorld(size int) impl.World {
	w := newWorld(size)
	for page, home := range homesOfPages[size] {
		w.Nodes[home].Homes[page].List = wordsOfPage(page)
	}
	return w
}

// having is w with that page at a node in that state, its words right.
func having(w impl.World, who, page, state int) impl.World {
	return withNode(w, withFrame(w.Nodes[who], page, frameOf(state, false, wordsOfPage(page)...)))
}

// owning is w with a node as the page's Owner, to write, home's words old.
func owning(w impl.World, who, page int) impl.World {
	w = having(w, who, page, impl.StWrite)
	home := homesOfPages[w.Size][page]
	w.Nodes[home].Homes[page].Owner = who
	w.Nodes[home].Homes[page].List = []int{5, 5, 5, 5}
	return w
}

func TestSaneWorlds(t *testing.T) {
	for size := 1; size <= impl.MaxNodes; size++ {
		w, _ := impl.WorldNew(size)
		wantSane(t, w, true)
		wantSane(t, saneWorld(size), true)
		wantSane(t, crowded(saneWorld(size)), true)
		all, split := saneWorld(size), saneWorld(size)
		for page := range impl.Pages {
			for who := range size {
				all = having(all, who, page, impl.StRead)
				wantSane(t, having(saneWorld(size), who, page, impl.StRead), true)
				wantSane(t, having(saneWorld(size), who, page, impl.StWrite), true)
				wantSane(t, owning(saneWorld(size), who, page), true)
			}
			split = owning(split, page%size, page)
		}
		wantSane(t, all, true)
		wantSane(t, split, true)
	}
}

// Two have it, one of them to write; that is all that is wrong.
func TestSaneNotAlone(t *testing.T) {
	for size := 2; size <= impl.MaxNodes; size++ {
		for page := range impl.Pages {
			for one := range size {
				for two := range size {
					if one == two {
						continue
					}
					w := owning(saneWorld(size), one, page)
					for _, state := range []int{impl.StRead, impl.StWrite} {
						both := having(w, two, page, state)
						wantSane(t, both, false)
						wantTruth(t, both, page, wordsOfPage(page))
					}
					wantSane(t, having(having(saneWorld(size), one, page, impl.StWrite), two, page, impl.StWrite), false)
					wantSane(t, having(having(saneWorld(size), one, page, impl.StWrite), two, page, impl.StRead), false)
					wantSane(t, having(having(saneWorld(size), one, page, impl.StRead), two, page, impl.StRead), true)
				}
			}
		}
	}
}

// Nobody has it, and its words are coming from nowhere: they are lost.
func TestSaneWithoutWords(t *testing.T) {
	for size := 1; size <= impl.MaxNodes; size++ {
		for page, home := range homesOfPages[size] {
			for owner := range size {
				w := saneWorld(size)
				w.Nodes[home].Homes[page].Owner = owner
				wantSane(t, w, false)
				if !impl.Alone(w, page) {
					t.Error("not alone")
				}
				given := withLine(w, home, owner, impl.Sender{Queue: []impl.Msg{dataOf(page, true, 7, 7, 7, 7)}})
				wantSane(t, given, true)
				wantSane(t, withGot(given, owner, home, 1), false)
				back := withLine(w, owner, home, impl.Sender{Queue: []impl.Msg{backOf(page, 7, 7, 7, 7)}})
				wantSane(t, back, true)
				wantSane(t, withGot(back, home, owner, 1), false)
				wantSane(t, withLine(w, home, owner, impl.Sender{Queue: []impl.Msg{dataOf(page, false, 7, 7, 7, 7)}}), false)
				wantSane(t, withLine(w, home, owner, impl.Sender{Queue: []impl.Msg{dataOf((page+1)%impl.Pages, true, 7, 7, 7, 7)}}), false)
				// Who has it to read does not make up for it.
				wantSane(t, having(w, owner, page, impl.StRead), false)
			}
		}
	}
}

func TestSaneWithAnotherWord(t *testing.T) {
	for size := 1; size <= impl.MaxNodes; size++ {
		for page, home := range homesOfPages[size] {
			for who := range size {
				all := saneWorld(size)
				for reader := range size {
					all = having(all, reader, page, impl.StRead)
				}
				for i := range impl.Words {
					for _, w := range []impl.World{having(saneWorld(size), who, page, impl.StRead), having(saneWorld(size), who, page, impl.StWrite), all} {
						for _, by := range []int{1, -1, 256, -256} {
							word := w.Nodes[who].Frames[page].List[i] + by
							if word < 0 || word > impl.MaxWord {
								continue
							}
							wantSane(t, inWorld(w, func(w *impl.World) { w.Nodes[who].Frames[page].List[i] = word }), false)
						}
					}
					// The Owner may write: its words are the page's.
					w := owning(saneWorld(size), who, page)
					w.Nodes[who].Frames[page].List[i] = 4321
					wantSane(t, w, true)
					// A reader whose words are told back is held against these.
					w = having(saneWorld(size), who, page, impl.StRead)
					w.Nodes[home].Homes[page].Owner = who
					w.Nodes[who].Out[home].Queue = []impl.Msg{backOf(page, wordsOfPage(page)...)}
					wantSane(t, w, true)
					w.Nodes[who].Out[home].Queue[0].List[i]++
					w.Nodes[who].Out[home].Queue[0].List[i] %= impl.MaxWord + 1
					wantSane(t, w, false)
				}
			}
		}
	}
}

// One has Got more of another than that has sent: by one, by many; just as
// many, and less, may be.
func TestSaneWithMoreGotThanSent(t *testing.T) {
	for size := 2; size <= impl.MaxNodes; size++ {
		for who := range size {
			for of := range size {
				if who == of {
					continue
				}
				for _, s := range senders() {
					end := s.Base + len(s.Queue)
					w := withLine(saneWorld(size), of, who, s)
					for _, got := range []int{0, s.Base, s.Base + len(s.Queue)/2, end - 1, end} {
						if got >= 0 {
							wantSane(t, withGot(w, who, of, got), true)
						}
					}
					for _, got := range []int{end + 1, end + 2, impl.MaxSeq} {
						if got > end && got <= impl.MaxSeq {
							wantSane(t, withGot(w, who, of, got), false)
							// What it has sent itself does not make up for it.
							wantSane(t, withLine(withGot(w, who, of, got), who, of, impl.Sender{Base: impl.MaxSeq}), false)
						}
					}
				}
			}
		}
	}
}

// The document says so of two nodes: of itself a node may have Got anything.
func TestSaneOfANodeAndItself(t *testing.T) {
	for size := 1; size <= impl.MaxNodes; size++ {
		for who := range size {
			for _, s := range senders() {
				end := s.Base + len(s.Queue)
				for _, got := range []int{0, end, min(end+1, impl.MaxSeq), impl.MaxSeq} {
					wantSane(t, withGot(withLine(saneWorld(size), who, who, s), who, who, got), true)
				}
			}
		}
	}
}

// All is sane but one thing in one page, the others all in use.
func TestSaneOfEachPage(t *testing.T) {
	for size := 2; size <= impl.MaxNodes; size++ {
		w := saneWorld(size)
		for page := range impl.Pages {
			if page%2 == 0 {
				w = owning(w, (page+1)%size, page)
				continue
			}
			for who := range size {
				w = having(w, who, page, impl.StRead)
			}
		}
		wantSane(t, w, true)
		for page, home := range homesOfPages[size] {
			for who := range size {
				bad := cloneOf(w)
				bad.Nodes[who].Frames[page] = frameOf(impl.StWrite, false, 1, 1, 1, 1)
				wantSane(t, bad, bad.Nodes[home].Homes[page].Owner == who)
				bad = cloneOf(w)
				bad.Nodes[home].Homes[page].Owner = who
				wantSane(t, bad, w.Nodes[home].Homes[page].Owner == who)
			}
		}
	}
}

func wantNothingTrue(t *testing.T, w impl.World) {
	t.Helper()
	numbers := append([]int{0, 1, impl.MaxNodes - 1, impl.MaxNodes, impl.Pages - 1, impl.Pages}, farNumbers...)
	for _, a := range numbers {
		for _, b := range []int{0, 1, w.Size - 1, w.Size, a} {
			wantComing(t, w, a, b, nil)
			wantComing(t, w, b, a, nil)
		}
	}
	for _, page := range append(noPages(), 0, 1, 2, 3, 4, 5) {
		wantTruth(t, w, page, nil)
		if impl.Alone(w, page) {
			t.Errorf("Alone(%v, %d) is true", w, page)
		}
	}
	wantSane(t, w, false)
}

func TestTruthOfWrongWorlds(t *testing.T) {
	for size := 1; size <= impl.MaxNodes; size++ {
		for _, w := range wrongWorlds(size) {
			wantNothingTrue(t, w)
		}
		// Such that have something to tell, wrong far from where it stands.
		for _, w := range []impl.World{openWorld(size), saneWorld(size)} {
			wantNothingTrue(t, withNet(w, packets(impl.MaxNet+1, size)...))
			wantNothingTrue(t, withNet(w, impl.Packet{From: size, Ack: true}))
			last := size - 1
			wantNothingTrue(t, inWorld(w, func(w *impl.World) { w.Nodes[last].Id++ }))
			wantNothingTrue(t, inWorld(w, func(w *impl.World) { w.Nodes[last].In[last].Got = impl.MaxSeq + 1 }))
			wantNothingTrue(t, inWorld(w, func(w *impl.World) { w.Nodes[last].Homes[5].Now.Who = size }))
			wantNothingTrue(t, inWorld(w, func(w *impl.World) { w.Nodes[last].Frames[5] = impl.Frame{State: 3} }))
		}
	}
	wantNothingTrue(t, impl.World{})
	wantNothingTrue(t, newWorld(impl.MaxNodes+1))
}

// The document's words, one by one, for a right world.

func comingByWords(w impl.World, from, to int) []impl.Msg {
	if from < 0 || from >= w.Size || to < 0 || to >= w.Size {
		return nil
	}
	var list []impl.Msg
	for i, m := range w.Nodes[from].Out[to].Queue {
		if number := w.Nodes[from].Out[to].Base + i; number >= w.Nodes[to].In[from].Got {
			list = append(list, m)
		}
	}
	return list
}

// truthByWords tells where the words are from, too.
func truthByWords(w impl.World, page int) (words []int, where string) {
	if page < 0 || page >= impl.Pages {
		return nil, "no page"
	}
	home := homesOfPages[w.Size][page]
	h := w.Nodes[home].Homes[page]
	if h.Owner == nobody {
		return h.List, "home"
	}
	if f := w.Nodes[h.Owner].Frames[page]; f.State == impl.StWrite {
		return f.List, "frame"
	}
	where = "nowhere"
	for _, m := range comingByWords(w, home, h.Owner) {
		if m.Kind == impl.MgData && m.Own && m.Page == page {
			words, where = m.List, "given"
		}
	}
	if where == "given" {
		return words, where
	}
	for _, m := range comingByWords(w, h.Owner, home) {
		if m.Kind == impl.MgBack && m.Page == page {
			words, where = m.List, "told back"
		}
	}
	return words, where
}

func aloneByWords(w impl.World, page int) bool {
	for one := range w.Size {
		for two := range w.Size {
			if one != two && w.Nodes[one].Frames[page].State == impl.StWrite && w.Nodes[two].Frames[page].State != impl.StNone {
				return false
			}
		}
	}
	return true
}

// saneByWords tells what is wrong first, too.
func saneByWords(w impl.World) (bool, string) {
	for page := range impl.Pages {
		if !aloneByWords(w, page) {
			return false, "not alone"
		}
		words, _ := truthByWords(w, page)
		if len(words) != impl.Words {
			return false, "no words"
		}
		for _, n := range w.Nodes {
			if f := n.Frames[page]; f.State != impl.StNone && !slices.Equal(f.List, words) {
				return false, "other words"
			}
		}
	}
	for one := range w.Size {
		for other := range w.Size {
			s := w.Nodes[other].Out[one]
			if one != other && w.Nodes[one].In[other].Got > s.Base+len(s.Queue) {
				return false, "ahead"
			}
		}
	}
	return true, "sane"
}

// wantByWords asks all of it of a right world, and counts what was met.
func wantByWords(t *testing.T, w impl.World, count map[string]int) {
	t.Helper()
	for from := -1; from <= w.Size; from++ {
		for to := -1; to <= w.Size; to++ {
			want := comingByWords(w, from, to)
			wantComing(t, w, from, to, want)
			if len(want) > 1 {
				count["coming"]++
			}
		}
	}
	for page := range impl.Pages {
		want, where := truthByWords(w, page)
		wantTruth(t, w, page, want)
		count[where]++
		alone := aloneByWords(w, page)
		if impl.Alone(w, page) != alone {
			t.Errorf("Alone(%v, %d) is not %v", w, page, alone)
		}
		count[fmt.Sprint("alone ", alone)]++
	}
	sane, why := saneByWords(w)
	wantSane(t, w, sane)
	count[why]++
}

// talkingWorld is any that is WorldOk in which much is coming.
func talkingWorld(r *rand.Rand, size int) impl.World {
	w := someWorld(r, size)
	for from := range size {
		for to := range size {
			s := impl.Sender{Base: r.Intn(20)}
			for range r.Intn(8) {
				m := someMsg(r)
				switch page := r.Intn(impl.Pages); r.Intn(3) {
				case 0:
					m = dataOf(page, r.Intn(3) > 0, 1, 2, 3, 4)
				case 1:
					m = backOf(page, 1, 2, 3, 4)
				}
				if hasList(m.Kind) {
					m.List = []int{r.Intn(impl.MaxWord + 1), r.Intn(3), 0, r.Intn(impl.MaxWord + 1)}
				}
				s.Queue = append(s.Queue, m)
			}
			w.Nodes[from].Out[to] = s
			w.Nodes[to].In[from].Got = max(0, s.Base-2+r.Intn(len(s.Queue)+5))
		}
	}
	return w
}

func TestTruthAsTheWordsGo(t *testing.T) {
	r := rand.New(rand.NewSource(10))
	count := map[string]int{}
	for i := range 3000 {
		wantByWords(t, talkingWorld(r, i%impl.MaxNodes+1), count)
	}
	for _, name := range []string{"coming", "home", "frame", "given", "told back", "nowhere", "alone true", "alone false"} {
		if count[name] < 100 {
			t.Error("too few of", name, count)
		}
	}
}

// harmed is w with one small thing done to it by which it may not be sane.
func harmed(r *rand.Rand, w impl.World) impl.World {
	w = cloneOf(w)
	who, of, page := r.Intn(w.Size), r.Intn(w.Size), r.Intn(impl.Pages)
	f := &w.Nodes[who].Frames[page]
	h := &w.Nodes[homesOfPages[w.Size][page]].Homes[page]
	switch r.Intn(7) {
	case 0:
		words, _ := truthByWords(w, page)
		*f = frameOf(r.Intn(3), f.Asked, words...)
	case 1:
		*f = frameOf(r.Intn(3), f.Asked, 1, 2, 3, 4)
	case 2:
		if len(f.List) > 0 {
			f.List[r.Intn(impl.Words)] ^= 1
		}
	case 3:
		h.Owner = r.Intn(w.Size+1) - 1
	case 4:
		h.List[r.Intn(impl.Words)] ^= 1
	case 5:
		s := w.Nodes[of].Out[who]
		w.Nodes[who].In[of].Got = s.Base + r.Intn(len(s.Queue)+3)
	case 6:
		if s := &w.Nodes[who].Out[of]; len(s.Queue) > 0 {
			s.Queue = s.Queue[:len(s.Queue)-1]
		}
	}
	return w
}

// A flow does deeds to a new world, and writes words where they may be
// written; memory is what each page's words must be then.
type flow struct {
	t      *testing.T
	r      *rand.Rand
	w      impl.World
	slow   bool
	memory [impl.Pages][impl.Words]int
	count  map[string]int
}

func newFlow(t *testing.T, seed int, count map[string]int) *flow {
	w, ok := impl.WorldNew(seed%impl.MaxNodes + 1)
	if !ok {
		t.Fatal("no world")
	}
	return &flow{t: t, r: rand.New(rand.NewSource(int64(seed))), w: w, slow: seed/impl.MaxNodes%3 == 0, count: count}
}

func (f *flow) do(d impl.Deed) {
	next, code := impl.WorldDo(f.w, d)
	if f.count[fmt.Sprint("kind ", d.Kind, " code ", code)]++; code != impl.WdBad {
		f.w = next
	}
}

// write is what a processor would do, and no more: one word of one frame.
func (f *flow) write() {
	n := f.w.Nodes[f.r.Intn(f.w.Size)]
	first := f.r.Intn(impl.Pages)
	for i := range impl.Pages {
		page, at, word := (first+i)%impl.Pages, f.r.Intn(impl.Words), f.r.Intn(impl.MaxWord+1)
		if frame, ok := impl.FrameWrite(n.Frames[page], at, word); ok {
			n.Frames[page] = frame
			f.memory[page][at] = word
			f.count["written"]++
			return
		}
	}
}

// goOn draws what is done next. Most packets are given where they stand, so
// that the pages go round; a slow one seldom acknowledges, so that lines fill.
func (f *flow) goOn() {
	a, b := f.r.Intn(f.w.Size), f.r.Intn(f.w.Size)
	at := f.r.Intn(len(f.w.Net) + 1)
	switch n := f.r.Intn(100); {
	case n < 15:
		f.do(deed(impl.DoWant, a, f.r.Intn(impl.Pages), f.r.Intn(2)))
	case n < 45:
		got, s := f.w.Nodes[b].In[a].Got, f.w.Nodes[a].Out[b]
		f.do(deed(impl.DoSend, a, b, max(0, got-s.Base)-f.r.Intn(2)+f.r.Intn(2)))
	case n < 75:
		f.do(deed(impl.DoGive, at, 0, 0))
	case n < 80:
		f.do(deed(impl.DoCopy, at, 0, 0))
	case n < 85:
		f.do(deed(impl.DoLose, at, 0, 0))
	case n < 92:
		if !f.slow || n == 85 && f.r.Intn(8) == 0 {
			f.do(deed(impl.DoAck, a, b, 0))
		}
	case n < 99:
		f.write()
	default:
		f.do(someDeed(f.r, f.w))
	}
}

// look asks that it is sane, and that no page has other words than were
// written to it.
func (f *flow) look() {
	f.t.Helper()
	if !impl.Sane(f.w) {
		_, why := saneByWords(f.w)
		f.t.Fatalf("%v is not sane: %s", f.w, why)
	}
	for page := range impl.Pages {
		if words := impl.Truth(f.w, page); !slices.Equal(words, f.memory[page][:]) {
			f.t.Fatalf("page %d of %v has the words %v, not %v", page, f.w, words, f.memory[page])
		}
		if !impl.Alone(f.w, page) {
			f.t.Fatalf("page %d of %v is not alone", page, f.w)
		}
		_, where := truthByWords(f.w, page)
		f.count[where]++
	}
	for from, n := range f.w.Nodes {
		for to, s := range n.Out {
			if len(s.Queue) == impl.MaxQueue {
				f.count["a full line"]++
			}
			// Sane does not ask this of a node and itself, but it holds there, too.
			if got := f.w.Nodes[to].In[from].Got; got < s.Base || got > s.Base+len(s.Queue) {
				f.t.Fatalf("node %d has Got %d of %d, which has sent %d", to, got, from, s.Base+len(s.Queue))
			}
		}
	}
}

func TestWhateverIsDoneItIsSane(t *testing.T) {
	count := map[string]int{}
	for seed := range 48 {
		f := newFlow(t, seed, count)
		f.look()
		for range 1200 {
			f.goOn()
			f.look()
		}
	}
	for _, name := range []string{
		"home", "frame", "given", "told back", "written", "a full line", "kind 1 code 0", "kind 2 code 0", "kind 3 code 0", "kind 4 code 0", "kind 5 code 0",
		"kind 6 code 0",
	} {
		if count[name] < 100 {
			t.Error("too few of", name, count)
		}
	}
	if count["nowhere"] > 0 {
		t.Error("words were lost", count)
	}
}

// The same of deeds that are any at all, in runs, nothing chosen so that
// something comes of it.
func TestWhateverRunsItIsSane(t *testing.T) {
	for seed := range 40 {
		r := rand.New(rand.NewSource(int64(seed)))
		w, _ := impl.WorldNew(seed%impl.MaxNodes + 1)
		for range 10 {
			var deeds []impl.Deed
			for range 60 {
				deeds = append(deeds, someDeed(r, w))
			}
			w, _ = impl.WorldRun(w, deeds)
			wantSane(t, w, true)
		}
	}
}

// What a run comes to, harmed by one small thing, is sane or not as the
// document's words go.
func TestSaneAsTheWordsGo(t *testing.T) {
	count := map[string]int{}
	for seed := range 40 {
		f := newFlow(t, seed, map[string]int{})
		for range 40 {
			for range 15 {
				f.goOn()
			}
			wantByWords(t, harmed(f.r, f.w), count)
		}
	}
	for _, name := range []string{"sane", "not alone", "no words", "other words", "ahead"} {
		if count[name] < 20 {
			t.Error("too few of", name, count)
		}
	}
}

// One page goes from node to node, each step by hand: where its words are,
// and what is coming.
func TestAPageByHand(t *testing.T) {
	w, _ := impl.WorldNew(3)
	run := func(deeds ...impl.Deed) {
		t.Helper()
		var codes []int
		w, codes = impl.WorldRun(w, deeds)
		if slices.Max(codes) != impl.WdDone {
			t.Fatal("refused", codes)
		}
		wantSane(t, w, true)
	}
	// take carries the next message of that line.
	take := func(from, to int) {
		t.Helper()
		at := w.Nodes[to].In[from].Got - w.Nodes[from].Out[to].Base
		run(deed(impl.DoSend, from, to, at), deed(impl.DoGive, 0, 0, 0))
	}
	const page, home = 4, 1
	zero, words := []int{0, 0, 0, 0}, []int{0, 0, 8, 0}
	run(deed(impl.DoWant, 2, page, 1))
	wantComing(t, w, 2, home, []impl.Msg{{Kind: impl.MgOwn, Page: page}})
	wantTruth(t, w, page, zero)
	take(2, home)
	wantComing(t, w, 2, home, nil)
	wantComing(t, w, home, 2, []impl.Msg{dataOf(page, true, 0, 0, 0, 0)})
	wantTruth(t, w, page, zero)
	take(home, 2)
	wantComing(t, w, home, 2, nil)
	w.Nodes[2].Frames[page], _ = impl.FrameWrite(w.Nodes[2].Frames[page], 2, 8)
	wantTruth(t, w, page, words)
	wantSane(t, w, true)
	run(deed(impl.DoWant, 0, page, 0))
	take(0, home)
	wantComing(t, w, home, 2, []impl.Msg{{Kind: impl.MgFetch, Page: page}})
	take(home, 2)
	wantComing(t, w, 2, home, []impl.Msg{backOf(page, words...)})
	wantTruth(t, w, page, words)
	take(2, home)
	wantComing(t, w, home, 0, []impl.Msg{dataOf(page, false, words...)})
	wantTruth(t, w, page, words)
	take(home, 0)
	if got := w.Nodes[0].Frames[page]; !sameFrame(got, frameOf(impl.StRead, false, words...)) {
		t.Error("node 0 has", got)
	}
	run(deed(impl.DoWant, home, page, 1))
	take(home, home)
	wantComing(t, w, home, 0, []impl.Msg{{Kind: impl.MgGone, Page: page}})
	take(home, 0)
	take(home, 2)
	take(0, home)
	wantComing(t, w, home, home, nil)
	take(2, home)
	wantComing(t, w, home, home, []impl.Msg{dataOf(page, true, words...)})
	wantTruth(t, w, page, words)
	take(home, home)
	wantTruth(t, w, page, words)
	if got := w.Nodes[home].Frames[page]; !sameFrame(got, frameOf(impl.StWrite, false, words...)) {
		t.Error("home has", got)
	}
}

// truthWorlds are such in which the words of pages are found in each place.
func truthWorlds(size int) []impl.World {
	list := append(memoryWorlds(size), openWorld(size), saneWorld(size))
	for owner := range size {
		for page, home := range homesOfPages[size] {
			w := ownedWorld(size, page, owner, impl.StRead)
			given := withLine(w, home, owner, impl.Sender{Queue: []impl.Msg{dataOf(page, true, data3...), dataOf(page, true, data4...), rightMsg(impl.MgBack)}})
			back := withLine(w, owner, home, impl.Sender{Queue: []impl.Msg{backOf(page, back6...), backOf(page, back7...), rightMsg(impl.MgData)}})
			list = append(list, w, given, back, ownedWorld(size, page, owner, impl.StWrite), owning(saneWorld(size), owner, page))
		}
	}
	return list
}

func TestTruthAnswersAreNewMemory(t *testing.T) {
	for size := 1; size <= impl.MaxNodes; size++ {
		some := false
		for _, w := range truthWorlds(size) {
			// What has the same memory twice would not have it in a copy.
			if !sharesWithin(w) {
				w = roomy(w)
			}
			for from := range size {
				for to := range size {
					list := impl.Coming(w, from, to)
					wantNew(t, list, w)
					some = some || len(list) > 1
				}
			}
			for page := range impl.Pages {
				wantNew(t, impl.Truth(w, page), w)
			}
		}
		if !some {
			t.Error("too little is coming to tell anything")
		}
	}
	// There, all that is coming has one list of words.
	w := oneList()
	if list := impl.Coming(w, 0, 1); len(list) != 3 || sharesWithin(list) {
		t.Error("Coming", list)
	}
}

// What is done to an answer is not seen in the world, nor in the next answer.
func TestTwoAnswersOfOneWorld(t *testing.T) {
	for size := 1; size <= impl.MaxNodes; size++ {
		for _, w := range truthWorlds(size) {
			if !impl.WorldOk(w) {
				continue
			}
			for page := range impl.Pages {
				want, _ := truthByWords(w, page)
				want = slices.Clone(want)
				got := impl.Truth(w, page)
				for i := range got {
					got[i] = -5
				}
				_ = append(got, -6)
				wantTruth(t, w, page, want)
			}
			want := cloneOf(comingByWords(w, size-1, 0))
			for _, m := range impl.Coming(w, size-1, 0) {
				for i := range m.List {
					m.List[i] = -5
				}
			}
			clear(impl.Coming(w, size-1, 0))
			wantComing(t, w, size-1, 0, want)
		}
	}
}

func TestTruthWritesIntoNoArgument(t *testing.T) {
	for size := 1; size <= impl.MaxNodes; size++ {
		for _, w := range truthWorlds(size) {
			given := roomy(w)
			before := whole(given)
			for from := -1; from <= size; from++ {
				for to := -1; to <= size; to++ {
					impl.Coming(given, from, to)
				}
			}
			for page := -1; page <= impl.Pages; page++ {
				impl.Truth(given, page)
				impl.Alone(given, page)
			}
			impl.Sane(given)
			wantUnwritten(t, given, before)
		}
	}
}
