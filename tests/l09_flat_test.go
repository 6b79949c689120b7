package tests

import (
	"math"
	"math/rand"
	"reflect"
	"slices"
	"testing"

	"loop.example/g00281/impl"
)

func sameHart(a, b impl.Hart) bool {
	return slices.Equal(a.Regs, b.Regs) && a.Pc == b.Pc && a.State == b.State
}

func sameHarts(a, b []impl.Hart) bool { return slices.EqualFunc(a, b, sameHart) }

func hartAt(pc int, regs ...int) impl.Hart { return impl.Hart{Regs: regs, Pc: pc} }

func inState(h impl.Hart, state int) impl.Hart {
	h.State = state
	return h
}

// withReg is h with a list of registers of its own, in which one is n.
func withReg(h impl.Hart, at, n int) impl.Hart {
	h.Regs = slices.Clone(h.Regs)
	h.Regs[at] = n
	return h
}

var hartStates = []int{impl.HtRun, impl.HtHalt, impl.HtFault}

var noStates = append([]int{3, 4, 256, -2, -256}, farNumbers...)

var noAddress = append([]int{-24, 24, 25, 48, 256, 65536}, farNumbers...)

// runningHarts differ in each register, so that no two are taken for each other.
func runningHarts() []impl.Hart {
	list := []impl.Hart{
		hartAt(0, 0, 0, 0, 0),
		hartAt(23, 65535, 65535, 65535, 65535),
		hartAt(22, 1, 2, 3, 4),
		hartAt(7, 0, 30, 65535, 1),
		hartAt(8, 65535, 0, 65534, 24),
		hartAt(1, 23, 65535, 0, 65500),
		hartAt(12, 65512, 65473, 65472, 0),
	}
	for _, pc := range []int{0, 11, 23} {
		list = append(list, hartAt(pc, 5, 6, 32768, 40000))
	}
	return list
}

func idleHarts() []impl.Hart {
	var list []impl.Hart
	for _, h := range runningHarts() {
		list = append(list, inState(h, impl.HtHalt), inState(h, impl.HtFault))
	}
	return list
}

// wrongHarts are right but for one thing each, and would run but for that.
func wrongHarts() []impl.Hart {
	list := []impl.Hart{{}, {Pc: 3}, {Regs: []int{}}}
	for _, count := range []int{1, 2, 3, 5, 6, 8, 24} {
		list = append(list, impl.Hart{Regs: make([]int, count)}, impl.Hart{Regs: slices.Repeat([]int{7}, count), Pc: 5})
	}
	for _, h := range []impl.Hart{hartAt(0, 0, 0, 0, 0), hartAt(5, 1, 2, 3, 4), hartAt(23, 65535, 65535, 65535, 65535)} {
		for at := range 4 {
			for _, n := range noWordAtAll {
				list = append(list, withReg(h, at, n))
			}
		}
		for _, pc := range noAddress {
			list = append(list, hartAt(pc, h.Regs...))
		}
		for _, state := range noStates {
			list = append(list, inState(h, state))
		}
	}
	return list
}

// wrongPlaces are not InsOk, each by one field alone.
func wrongPlaces() []impl.Ins {
	list := []impl.Ins{{}, {R: 1}, {A: 3, N: 63}}
	for _, o := range insOps {
		for _, x := range cornersOf(o) {
			for i, f := range insFields {
				bad := []int{-1, f.most + 1, math.MinInt, math.MaxInt}
				if !o.names[i] {
					bad = append(bad, 1)
				}
				for _, n := range bad {
					list = append(list, withField(x, f, n))
				}
			}
		}
	}
	for _, op := range noOps {
		list = append(list, impl.Ins{Op: op}, impl.Ins{Op: op, R: 3, A: 3, B: 3, N: 63})
	}
	return list
}

func rightPlaces() []impl.Ins {
	var list []impl.Ins
	for _, o := range insOps {
		list = append(list, cornersOf(o)...)
	}
	return list
}

func wordOfPlace(t *testing.T, x impl.Ins) int {
	t.Helper()
	w, ok := impl.Code(x)
	if !ok {
		t.Fatalf("%+v is no place", x)
	}
	return w
}

// memoryOf is Cells words, the first of them those of a program.
func memoryOf(t *testing.T, program ...impl.Ins) []int {
	t.Helper()
	mem := make([]int, impl.Cells)
	for i, x := range program {
		mem[i] = wordOfPlace(t, x)
	}
	return mem
}

func withWord(mem []int, at, w int) []int {
	mem = slices.Clone(mem)
	mem[at] = w
	return mem
}

func TestFlatConstants(t *testing.T) {
	if got := [...]int{impl.HtRun, impl.HtHalt, impl.HtFault, impl.MaxOrder}; got != [...]int{0, 1, 2, 2000} {
		t.Error("constants", got)
	}
}

func TestHartOk(t *testing.T) {
	right := append(runningHarts(), idleHarts()...)
	for pc := range impl.Cells {
		for _, state := range hartStates {
			right = append(right, inState(hartAt(pc, 0, 1, 65534, 65535), state))
		}
	}
	for at := range 4 {
		for _, w := range someWords {
			right = append(right, withReg(hartAt(0, 0, 0, 0, 0), at, w), withReg(hartAt(23, 65535, 65535, 65535, 65535), at, w))
		}
	}
	for _, h := range right {
		if !impl.HartOk(h) {
			t.Errorf("HartOk(%v) is false", h)
		}
	}
	for _, h := range wrongHarts() {
		if impl.HartOk(h) {
			t.Errorf("HartOk(%v) is true", h)
		}
	}
}

// What is wrong in one thing is wrong in each State, and does not become right
// by another thing that is wrong.
func TestHartOkEdges(t *testing.T) {
	counts := []int{0, 3, 4, 5}
	words := []int{-1, 0, impl.MaxWord, impl.MaxWord + 1}
	pcs := []int{-1, 0, impl.Cells - 1, impl.Cells}
	states := []int{-1, 0, 1, 2, 3}
	for i, count := range counts {
		for j, w := range words {
			for k, pc := range pcs {
				for l, state := range states {
					h := impl.Hart{Regs: slices.Repeat([]int{w}, count), Pc: pc, State: state}
					inner := i == 2 && (j == 1 || j == 2) && (k == 1 || k == 2) && l > 0 && l < 4
					if impl.HartOk(h) != inner {
						t.Errorf("HartOk(%v) is not %v", h, inner)
					}
				}
			}
		}
	}
}

func wantHartNew(t *testing.T, pc, address int) {
	t.Helper()
	h := impl.HartNew(pc)
	if !sameHart(h, hartAt(address, 0, 0, 0, 0)) {
		t.Errorf("HartNew(%d) is %v, not at %d", pc, h, address)
	}
	if !impl.HartOk(h) {
		t.Errorf("HartNew(%d) is not HartOk: %v", pc, h)
	}
}

func TestHartNew(t *testing.T) {
	cases := [][2]int{
		{0, 0}, {1, 1}, {22, 22}, {23, 23}, {24, 0}, {25, 1}, {47, 23}, {48, 0}, {50, 2},
		{-1, 23}, {-2, 22}, {-23, 1}, {-24, 0}, {-25, 23}, {-48, 0}, {-49, 23},
		{65535, 15}, {65536, 16}, {-65536, 8},
		{math.MaxInt, 7}, {math.MaxInt - 1, 6}, {math.MinInt, 16}, {math.MinInt + 1, 17},
	}
	for _, c := range cases {
		wantHartNew(t, c[0], c[1])
	}
	address := 0
	for pc := -2400; pc <= 2400; pc++ {
		wantHartNew(t, pc, address)
		if address++; address == 24 {
			address = 0
		}
	}
}

// leftBy is what is left of a number, from 0 on.
func leftBy(n, by int) int { return (n%by + by) % by }

func wantTarget(t *testing.T, x impl.Ins, regs []int, want int) {
	t.Helper()
	if got := impl.Target(x, regs); got != want {
		t.Errorf("Target(%+v, %v) is %d, not %d", x, regs, got, want)
	}
}

// hasTarget: of the ops, as the document names them.
func hasTarget(op int) bool { return op == impl.InLoad || op == impl.InStore || op == impl.InSwap }

// A register and N together are a sum of words: behind MaxWord comes 0, and not
// what 65536 leaves by Cells (16).
func TestTarget(t *testing.T) {
	cases := []struct{ reg, n, want int }{
		{0, 0, 0}, {0, 1, 1}, {1, 0, 1}, {0, 22, 22}, {0, 23, 23}, {0, 24, 0}, {0, 25, 1}, {0, 47, 23}, {0, 48, 0}, {0, 63, 15},
		{22, 0, 22}, {22, 1, 23}, {22, 2, 0}, {23, 0, 23}, {23, 1, 0}, {23, 2, 1}, {24, 0, 0}, {24, 63, 15}, {23, 63, 14}, {30, 3, 9},
		{65520, 0, 0}, {65519, 0, 23}, {65534, 0, 14}, {65534, 1, 15}, {65535, 0, 15},
		{65472, 63, 15}, {65473, 63, 0}, {65534, 2, 0}, {65534, 3, 1}, {65535, 1, 0}, {65535, 24, 23}, {65535, 25, 0}, {65535, 63, 14},
	}
	for _, op := range []int{impl.InLoad, impl.InStore, impl.InSwap} {
		for _, c := range cases {
			for a := range 4 {
				regs := []int{5, 6, 7, 8}
				regs[a] = c.reg
				wantTarget(t, impl.Ins{Op: op, A: a, N: c.n}, regs, c.want)
			}
		}
	}
}

func TestTargetOfEveryPlace(t *testing.T) {
	for _, o := range insOps {
		for x := range placesOf(o) {
			for _, h := range runningHarts() {
				wantTarget(t, x, h.Regs, targetByWords(x, h.Regs))
			}
		}
	}
}

func TestTargetOfWrongThings(t *testing.T) {
	for _, x := range wrongPlaces() {
		wantTarget(t, x, []int{1, 2, 3, 4}, -1)
		wantTarget(t, x, nil, -1)
	}
	for _, x := range rightPlaces() {
		for _, count := range []int{0, 1, 2, 3, 5, 6, 8} {
			wantTarget(t, x, make([]int, count), -1)
		}
	}
	wantTarget(t, impl.Ins{Op: impl.InLoad, A: 2}, []int{1, 2, 3}, -1)
	wantTarget(t, impl.Ins{Op: impl.InLoad, A: 2}, []int{1, 2, 3, 4}, 3)
	wantTarget(t, impl.Ins{Op: impl.InLoad, A: 2}, []int{1, 2, 3, 4, 5}, -1)
}

// A register that is no word: what it and N are together is no sum of words, so
// it does not go round at MaxWord. The numbers at both ends of int are as sure.
func TestTargetOfRegistersThatAreNoWords(t *testing.T) {
	cases := []struct{ reg, n, want int }{
		{65536, 0, 16}, {65536, 4, 20}, {65536, 7, 23}, {65536, 8, 0}, {65536, 63, 7}, {65537, 0, 17}, {65537, 63, 8},
		{1000001, 0, 17}, {1000001, 63, 8}, {math.MaxInt, 0, 7}, {math.MaxInt, 1, 8}, {math.MaxInt, 63, 22}, {math.MaxInt - 63, 63, 7}, {math.MaxInt - 62, 63, 8},
		{-1, 0, 23}, {-1, 1, 0}, {-1, 2, 1}, {-1, 63, 14}, {-2, 1, 23}, {-24, 0, 0}, {-25, 0, 23}, {-30, 2, 20}, {-63, 63, 0}, {-64, 63, 23},
		{-65536, 0, 8}, {-65536, 63, 23}, {-1000000, 0, 8}, {-1000000, 63, 23}, {math.MinInt, 0, 16}, {math.MinInt, 1, 17}, {math.MinInt, 63, 7},
	}
	for _, op := range []int{impl.InLoad, impl.InStore, impl.InSwap} {
		for _, c := range cases {
			for a := range 4 {
				regs := []int{5, 65535, -7, 65536}
				regs[a] = c.reg
				wantTarget(t, impl.Ins{Op: op, A: a, N: c.n}, regs, c.want)
			}
		}
	}
}

// Only register A counts: a word there is one of a sum of words, whatever the
// others are.
func TestTargetBesideRegistersThatAreNoWords(t *testing.T) {
	for _, n := range noWordAtAll {
		for _, op := range []int{impl.InLoad, impl.InStore, impl.InSwap} {
			wantTarget(t, impl.Ins{Op: op, A: 1, N: 1}, []int{n, 65535, n, n}, 0)
			wantTarget(t, impl.Ins{Op: op, A: 1, N: 63}, []int{n, 65472, n, n}, 15)
		}
	}
}

// targetByWords sums as the document does: words alone go round at MaxWord. The
// left of each number is summed, as the sum of far ones has no room in an int.
func targetByWords(x impl.Ins, regs []int) int {
	if !hasTarget(x.Op) {
		return -1
	}
	if a := regs[x.A]; a < 0 || a > 65535 {
		return leftBy(leftBy(a, 24)+x.N, 24)
	}
	return leftBy(leftBy(regs[x.A]+x.N, 65536), 24)
}

func TestTargetByWords(t *testing.T) {
	for _, x := range rightPlaces() {
		for _, n := range noWordAtAll {
			regs := []int{n, n, n, n}
			wantTarget(t, x, regs, targetByWords(x, regs))
		}
	}
}

func wantWork(t *testing.T, h impl.Hart, x impl.Ins, got int, want impl.Hart, wantPut int) {
	t.Helper()
	given, before := roomy(h), whole(h)
	g, put := impl.Work(given, x, got)
	if !sameHart(g, want) || put != wantPut {
		t.Errorf("Work(%v, %+v, %d) is %v, %d, not %v, %d", h, x, got, g, put, want, wantPut)
	}
	if !sameHart(given, before) {
		t.Errorf("Work(%v, %+v, %d) wrote into the hart: %v", before, x, got, given)
	}
}

// Each line was worked out by hand.
func TestWork(t *testing.T) {
	cases := []struct {
		h    impl.Hart
		x    impl.Ins
		got  int
		want impl.Hart
		put  int
	}{
		{hartAt(0, 9, 8, 7, 6), impl.Ins{Op: impl.InSet, R: 0, N: 63}, 1, hartAt(1, 63, 8, 7, 6), -1},
		{hartAt(22, 9, 8, 7, 6), impl.Ins{Op: impl.InSet, R: 3}, 1, hartAt(23, 9, 8, 7, 0), -1},
		{hartAt(23, 9, 8, 7, 6), impl.Ins{Op: impl.InSet, R: 2, N: 5}, 0, hartAt(0, 9, 8, 5, 6), -1},
		{hartAt(3, 9, 8, 7, 6), impl.Ins{Op: impl.InAdd, R: 1, A: 2, B: 3}, 1, hartAt(4, 9, 13, 7, 6), -1},
		{hartAt(3, 9, 8, 65530, 6), impl.Ins{Op: impl.InAdd, R: 1, A: 2, B: 3}, 1, hartAt(4, 9, 0, 65530, 6), -1},
		{hartAt(3, 9, 8, 65529, 6), impl.Ins{Op: impl.InAdd, R: 1, A: 2, B: 3}, 1, hartAt(4, 9, 65535, 65529, 6), -1},
		{hartAt(3, 65535, 65535, 1, 1), impl.Ins{Op: impl.InAdd, R: 0, A: 0, B: 1}, 1, hartAt(4, 65534, 65535, 1, 1), -1},
		{hartAt(3, 40000, 0, 1, 1), impl.Ins{Op: impl.InAdd, R: 0, A: 0, B: 0}, 1, hartAt(4, 14464, 0, 1, 1), -1},
		{hartAt(3, 5, 7, 1, 1), impl.Ins{Op: impl.InAdd, R: 1, A: 0, B: 1}, 1, hartAt(4, 5, 12, 1, 1), -1},
		{hartAt(23, 9, 8, 7, 6), impl.Ins{Op: impl.InSub, R: 1, A: 2, B: 3}, 1, hartAt(0, 9, 1, 7, 6), -1},
		{hartAt(3, 9, 8, 6, 7), impl.Ins{Op: impl.InSub, R: 1, A: 2, B: 3}, 1, hartAt(4, 9, 65535, 6, 7), -1},
		{hartAt(3, 9, 8, 0, 65535), impl.Ins{Op: impl.InSub, R: 2, A: 2, B: 3}, 1, hartAt(4, 9, 8, 1, 65535), -1},
		{hartAt(3, 9, 8, 65535, 0), impl.Ins{Op: impl.InSub, R: 3, A: 2, B: 3}, 1, hartAt(4, 9, 8, 65535, 65535), -1},
		{hartAt(3, 9, 8, 6, 7), impl.Ins{Op: impl.InSub, R: 3, A: 3, B: 3}, 1, hartAt(4, 9, 8, 6, 0), -1},
		{hartAt(3, 9, 8, 6, 7), impl.Ins{Op: impl.InMore, R: 0, A: 2, N: 63}, 1, hartAt(4, 69, 8, 6, 7), -1},
		{hartAt(3, 9, 8, 65472, 7), impl.Ins{Op: impl.InMore, R: 0, A: 2, N: 63}, 1, hartAt(4, 65535, 8, 65472, 7), -1},
		{hartAt(3, 9, 8, 65473, 7), impl.Ins{Op: impl.InMore, R: 2, A: 2, N: 63}, 1, hartAt(4, 9, 8, 0, 7), -1},
		{hartAt(23, 9, 8, 65535, 7), impl.Ins{Op: impl.InMore, R: 3, A: 2, N: 63}, 1, hartAt(0, 9, 8, 65535, 62), -1},
		{hartAt(3, 9, 8, 6, 7), impl.Ins{Op: impl.InLoad, R: 0, A: 2, N: 63}, 500, hartAt(4, 500, 8, 6, 7), -1},
		{hartAt(3, 9, 8, 6, 7), impl.Ins{Op: impl.InLoad, R: 2, A: 2, N: 63}, 0, hartAt(4, 9, 8, 0, 7), -1},
		{hartAt(23, 9, 8, 6, 7), impl.Ins{Op: impl.InLoad, R: 3}, 65535, hartAt(0, 9, 8, 6, 65535), -1},
		{hartAt(3, 9, 8, 6, 7), impl.Ins{Op: impl.InStore, A: 0, B: 2, N: 63}, 500, hartAt(4, 9, 8, 6, 7), 6},
		{hartAt(23, 9, 0, 6, 7), impl.Ins{Op: impl.InStore, A: 1, B: 1}, 500, hartAt(0, 9, 0, 6, 7), 0},
		{hartAt(3, 9, 8, 6, 65535), impl.Ins{Op: impl.InStore, A: 0, B: 3}, 0, hartAt(4, 9, 8, 6, 65535), 65535},
		{hartAt(3, 9, 8, 6, 7), impl.Ins{Op: impl.InSwap, R: 0, A: 1, B: 2, N: 63}, 500, hartAt(4, 500, 8, 6, 7), 506},
		{hartAt(3, 9, 8, 6, 7), impl.Ins{Op: impl.InSwap, R: 2, A: 1, B: 2, N: 63}, 500, hartAt(4, 9, 8, 500, 7), 506},
		{hartAt(3, 9, 8, 6, 7), impl.Ins{Op: impl.InSwap, R: 2, A: 2, B: 2}, 0, hartAt(4, 9, 8, 0, 7), 6},
		{hartAt(3, 9, 8, 6, 7), impl.Ins{Op: impl.InSwap, R: 1, A: 1, B: 2}, 500, hartAt(4, 9, 500, 6, 7), 506},
		{hartAt(23, 9, 8, 6, 65535), impl.Ins{Op: impl.InSwap, R: 3, A: 1, B: 3}, 1, hartAt(0, 9, 8, 6, 1), 0},
		{hartAt(3, 9, 8, 6, 65535), impl.Ins{Op: impl.InSwap, R: 0, A: 1, B: 3}, 65535, hartAt(4, 65535, 8, 6, 65535), 65534},
		{hartAt(3, 9, 0, 6, 7), impl.Ins{Op: impl.InSwap, R: 0, A: 1, B: 1}, 65535, hartAt(4, 65535, 0, 6, 7), 65535},
		{hartAt(3, 9, 0, 6, 7), impl.Ins{Op: impl.InZero, A: 1, N: 20}, 1, hartAt(20, 9, 0, 6, 7), -1},
		{hartAt(3, 9, 0, 6, 7), impl.Ins{Op: impl.InZero, A: 1, N: 3}, 1, hartAt(3, 9, 0, 6, 7), -1},
		{hartAt(3, 9, 0, 6, 7), impl.Ins{Op: impl.InZero, A: 1}, 1, hartAt(0, 9, 0, 6, 7), -1},
		{hartAt(3, 9, 0, 6, 7), impl.Ins{Op: impl.InZero, A: 1, N: 23}, 1, hartAt(23, 9, 0, 6, 7), -1},
		{hartAt(3, 9, 0, 6, 7), impl.Ins{Op: impl.InZero, A: 1, N: 24}, 1, hartAt(0, 9, 0, 6, 7), -1},
		{hartAt(3, 9, 0, 6, 7), impl.Ins{Op: impl.InZero, A: 1, N: 63}, 1, hartAt(15, 9, 0, 6, 7), -1},
		{hartAt(3, 9, 1, 6, 7), impl.Ins{Op: impl.InZero, A: 1, N: 20}, 0, hartAt(4, 9, 1, 6, 7), -1},
		{hartAt(23, 9, 65535, 6, 7), impl.Ins{Op: impl.InZero, A: 1, N: 20}, 0, hartAt(0, 9, 65535, 6, 7), -1},
		{hartAt(3, 0, 1, 0, 0), impl.Ins{Op: impl.InZero, A: 1, N: 63}, 0, hartAt(4, 0, 1, 0, 0), -1},
		{hartAt(3, 9, 8, 6, 7), impl.Ins{Op: impl.InJump}, 1, hartAt(0, 9, 8, 6, 7), -1},
		{hartAt(3, 9, 8, 6, 7), impl.Ins{Op: impl.InJump, N: 23}, 1, hartAt(23, 9, 8, 6, 7), -1},
		{hartAt(3, 9, 8, 6, 7), impl.Ins{Op: impl.InJump, N: 24}, 1, hartAt(0, 9, 8, 6, 7), -1},
		{hartAt(23, 9, 8, 6, 7), impl.Ins{Op: impl.InJump, N: 63}, 1, hartAt(15, 9, 8, 6, 7), -1},
		{hartAt(3, 9, 8, 6, 7), impl.Ins{Op: impl.InHalt}, 1, inState(hartAt(3, 9, 8, 6, 7), impl.HtHalt), -1},
		{hartAt(23, 0, 0, 0, 0), impl.Ins{Op: impl.InHalt}, 65535, inState(hartAt(23, 0, 0, 0, 0), impl.HtHalt), -1},
		{hartAt(3, 9, 8, 6, 7), impl.Ins{}, 1, inState(hartAt(3, 9, 8, 6, 7), impl.HtFault), -1},
		{hartAt(23, 9, 8, 6, 7), impl.Ins{Op: 11}, 1, inState(hartAt(23, 9, 8, 6, 7), impl.HtFault), -1},
		{hartAt(3, 9, 8, 6, 7), impl.Ins{Op: impl.InHalt, N: 1}, 1, inState(hartAt(3, 9, 8, 6, 7), impl.HtFault), -1},
		{hartAt(3, 9, 8, 6, 7), impl.Ins{Op: impl.InStore, R: 1}, 1, inState(hartAt(3, 9, 8, 6, 7), impl.HtFault), -1},
		{hartAt(3, 9, 8, 6, 7), impl.Ins{Op: impl.InSet, R: 4}, 1, inState(hartAt(3, 9, 8, 6, 7), impl.HtFault), -1},
	}
	for _, c := range cases {
		wantWork(t, c.h, c.x, c.got, c.want, c.put)
	}
}

// workByWords is Work of a right place, by a hart that runs, as the document
// has it, op by op.
func workByWords(h impl.Hart, x impl.Ins, got int) (impl.Hart, int) {
	put, a, b := -1, h.Regs[x.A], h.Regs[x.B]
	set := func(n int) { h = withReg(h, x.R, leftBy(n, 65536)) }
	pc := h.Pc
	h.Pc = leftBy(pc+1, 24)
	switch {
	case x.Op == impl.InSet:
		set(x.N)
	case x.Op == impl.InAdd:
		set(a + b)
	case x.Op == impl.InSub:
		set(a - b)
	case x.Op == impl.InMore:
		set(a + x.N)
	case x.Op == impl.InLoad:
		set(got)
	case x.Op == impl.InStore:
		put = b
	case x.Op == impl.InSwap:
		set(got)
		put = leftBy(got+b, 65536)
	case x.Op == impl.InJump, x.Op == impl.InZero && a == 0:
		h.Pc = leftBy(x.N, 24)
	case x.Op == impl.InHalt:
		h.Pc, h.State = pc, impl.HtHalt
	}
	return h, put
}

func TestWorkOfEveryPlace(t *testing.T) {
	for _, o := range insOps {
		for x := range placesOf(o) {
			for i, h := range runningHarts() {
				got := someWords[(i+x.N+x.R)%len(someWords)]
				want, put := workByWords(h, x, got)
				g, w := impl.Work(h, x, got)
				if !sameHart(g, want) || w != put {
					t.Errorf("Work(%v, %+v, %d) is %v, %d, not %v, %d", h, x, got, g, w, want, put)
				}
				if !impl.HartOk(g) {
					t.Errorf("Work(%v, %+v, %d) is not HartOk: %v", h, x, got, g)
				}
			}
		}
	}
}

// What is written hangs on the op alone, and got is seen in what InLoad and
// InSwap do alone.
func TestWorkWithEachGot(t *testing.T) {
	for _, x := range rightPlaces() {
		for _, h := range runningHarts() {
			first, firstPut := impl.Work(h, x, 0)
			for _, got := range someWords {
				want, put := workByWords(h, x, got)
				wantWork(t, h, x, got, want, put)
				g, w := impl.Work(h, x, got)
				if x.Op != impl.InLoad && x.Op != impl.InSwap && (!sameHart(g, first) || w != firstPut) {
					t.Errorf("Work(%v, %+v) is another one by got %d", h, x, got)
				}
				if (w != -1) != (x.Op == impl.InStore || x.Op == impl.InSwap) {
					t.Errorf("Work(%v, %+v, %d) writes %d", h, x, got, w)
				}
			}
		}
	}
}

// From each address the next one, but for jumps and what halts.
func TestWorkFromEachAddress(t *testing.T) {
	for pc := range impl.Cells {
		next := pc + 1
		if pc == 23 {
			next = 0
		}
		for _, x := range rightPlaces() {
			h := hartAt(pc, 1, 1, 1, 1)
			g, _ := impl.Work(h, x, 4)
			switch x.Op {
			case impl.InJump:
				continue
			case impl.InHalt:
				if g.Pc != pc || g.State != impl.HtHalt {
					t.Errorf("InHalt at %d: %v", pc, g)
				}
			default:
				if g.Pc != next || g.State != impl.HtRun {
					t.Errorf("%+v at %d: %v", x, pc, g)
				}
			}
		}
	}
}

func TestJumpsToEachN(t *testing.T) {
	address := 0
	for n := range 64 {
		for _, pc := range []int{0, 9, 23} {
			for a := range 4 {
				zero, other := withReg(hartAt(pc, 1, 2, 3, 4), a, 0), withReg(hartAt(pc, 0, 0, 0, 0), a, 1)
				wantWork(t, zero, impl.Ins{Op: impl.InZero, A: a, N: n}, 5, hartAt(address, zero.Regs...), -1)
				wantWork(t, other, impl.Ins{Op: impl.InZero, A: a, N: n}, 5, hartAt(leftBy(pc+1, 24), other.Regs...), -1)
				wantWork(t, other, impl.Ins{Op: impl.InJump, N: n}, 5, hartAt(address, other.Regs...), -1)
			}
		}
		if address++; address == 24 {
			address = 0
		}
	}
}

func TestWorkOfWhatIsNoPlace(t *testing.T) {
	for _, h := range runningHarts() {
		for _, x := range wrongPlaces() {
			wantWork(t, h, x, 7, inState(h, impl.HtFault), -1)
		}
	}
}

// somePlaces are a right place of each op, and some that fault.
func somePlaces() []impl.Ins {
	list := []impl.Ins{{}, {Op: 11}, {Op: impl.InSet, R: 4}, {Op: impl.InJump, N: 64}, {Op: impl.InHalt, A: 1}, {Op: impl.InStore, R: -1}}
	for _, o := range insOps {
		corners := cornersOf(o)
		list = append(list, corners[0], corners[len(corners)-1])
	}
	return list
}

func wantNoWork(t *testing.T, h impl.Hart, x impl.Ins, got int) {
	t.Helper()
	wantWork(t, h, x, got, h, -1)
}

func TestWorkOfHartsThatDoNotRun(t *testing.T) {
	for _, x := range somePlaces() {
		for _, got := range []int{0, 7, impl.MaxWord, -1, impl.MaxWord + 1} {
			for _, h := range idleHarts() {
				wantNoWork(t, h, x, got)
			}
			for _, h := range wrongHarts() {
				wantNoWork(t, h, x, got)
				wantNoWork(t, inState(h, impl.HtHalt), x, got)
			}
		}
	}
}

// Also where no Target is, and where it would fault or halt.
func TestWorkWithWhatIsNoWord(t *testing.T) {
	for _, h := range runningHarts() {
		for _, x := range append(somePlaces(), rightPlaces()...) {
			for _, got := range noWordAtAll {
				wantNoWork(t, h, x, got)
			}
		}
	}
}

// A flat is one memory and a hart on it.
type flat struct {
	Mem  []int
	Hart impl.Hart
}

func stepped(f flat) flat {
	mem, h := impl.FlatStep(f.Mem, f.Hart)
	return flat{mem, h}
}

func sameFlat(a, b flat) bool { return slices.Equal(a.Mem, b.Mem) && sameHart(a.Hart, b.Hart) }

func wantStep(t *testing.T, f, want flat) {
	t.Helper()
	given := roomy(f)
	before := whole(given)
	if got := stepped(given); !sameFlat(got, want) {
		t.Errorf("FlatStep of %v is %v, not %v", f, got, want)
	}
	wantUnwritten(t, given, before)
}

func wantNoStep(t *testing.T, f flat) {
	t.Helper()
	wantStep(t, f, f)
}

// stepByWords is FlatStep as the document has it, by what the chapters ahead of
// it say of words and places.
func stepByWords(f flat) flat {
	right := len(f.Mem) == 24 && f.Hart.State == 0 && impl.HartOk(f.Hart)
	for _, w := range f.Mem {
		right = right && w >= 0 && w <= 65535
	}
	if !right {
		return f
	}
	x, ok := impl.Decode(f.Mem[f.Hart.Pc])
	if !ok {
		return flat{f.Mem, inState(f.Hart, impl.HtFault)}
	}
	at := leftBy(leftBy(f.Hart.Regs[x.A]+x.N, 65536), 24)
	h, put := workByWords(f.Hart, x, f.Mem[at])
	if put == -1 {
		return flat{f.Mem, h}
	}
	return flat{withWord(f.Mem, at, put), h}
}

func TestFlatStep(t *testing.T) {
	base := make([]int, 24)
	for i := range base {
		base[i] = 100 * i
	}
	cases := []struct {
		x    impl.Ins
		pc   int
		regs []int
		want impl.Hart
		at   int
		word int
	}{
		{impl.Ins{Op: impl.InSet, R: 1, N: 9}, 4, []int{1, 2, 3, 4}, hartAt(5, 1, 9, 3, 4), -1, 0},
		{impl.Ins{Op: impl.InLoad, R: 1, A: 0, N: 9}, 4, []int{1, 2, 3, 4}, hartAt(5, 1, 1000, 3, 4), -1, 0},
		{impl.Ins{Op: impl.InLoad, R: 0, A: 0, N: 63}, 23, []int{7, 2, 3, 4}, hartAt(0, 2200, 2, 3, 4), -1, 0},
		{impl.Ins{Op: impl.InStore, A: 0, B: 3, N: 9}, 4, []int{1, 2, 3, 4}, hartAt(5, 1, 2, 3, 4), 10, 4},
		{impl.Ins{Op: impl.InStore, A: 3, B: 3, N: 63}, 23, []int{1, 2, 3, 65535}, hartAt(0, 1, 2, 3, 65535), 14, 65535},
		{impl.Ins{Op: impl.InSwap, R: 0, A: 1, B: 2, N: 1}, 4, []int{1, 2, 3, 4}, hartAt(5, 300, 2, 3, 4), 3, 303},
		{impl.Ins{Op: impl.InSwap, R: 2, A: 1, B: 2, N: 1}, 4, []int{1, 2, 3, 4}, hartAt(5, 1, 2, 300, 4), 3, 303},
		{impl.Ins{Op: impl.InSwap, R: 3, A: 1, B: 3, N: 1}, 4, []int{1, 2, 3, 65236}, hartAt(5, 1, 2, 3, 300), 3, 0},
		{impl.Ins{Op: impl.InZero, A: 2, N: 25}, 4, []int{1, 2, 0, 4}, hartAt(1, 1, 2, 0, 4), -1, 0},
		{impl.Ins{Op: impl.InJump, N: 4}, 4, []int{1, 2, 0, 4}, hartAt(4, 1, 2, 0, 4), -1, 0},
		{impl.Ins{Op: impl.InHalt}, 4, []int{1, 2, 0, 4}, inState(hartAt(4, 1, 2, 0, 4), impl.HtHalt), -1, 0},
	}
	for _, c := range cases {
		mem := withWord(base, c.pc, wordOfPlace(t, c.x))
		after := mem
		if c.at >= 0 {
			after = withWord(mem, c.at, c.word)
		}
		wantStep(t, flat{mem, hartAt(c.pc, c.regs...)}, flat{after, c.want})
	}
}

func TestFlatStepOfEveryWordThatIsNoPlace(t *testing.T) {
	mem := make([]int, 24)
	for w := range impl.MaxWord + 1 {
		if _, ok := impl.Decode(w); ok {
			continue
		}
		pc := w % 24
		f := flat{withWord(mem, pc, w), hartAt(pc, 1, 2, 3, 4)}
		if got := stepped(f); !sameFlat(got, flat{f.Mem, inState(f.Hart, impl.HtFault)}) {
			t.Errorf("FlatStep at %d of %d is %v", w, pc, got)
		}
	}
}

// The step is of the place as it was when it was read, whatever it writes there.
func TestFlatStepThatWritesItsOwnPlace(t *testing.T) {
	store := impl.Ins{Op: impl.InStore, A: 0, B: 1, N: 5}
	swap := impl.Ins{Op: impl.InSwap, R: 2, A: 0, B: 1, N: 5}
	load := impl.Ins{Op: impl.InLoad, R: 2, A: 0, N: 5}
	empty := make([]int, 24)
	h := hartAt(5, 0, 9, 0, 0)
	wantStep(t, flat{withWord(empty, 5, wordOfPlace(t, store)), h}, flat{withWord(empty, 5, 9), hartAt(6, 0, 9, 0, 0)})
	word := wordOfPlace(t, swap)
	wantStep(t, flat{withWord(empty, 5, word), h}, flat{withWord(empty, 5, word+9), hartAt(6, 0, 9, word, 0)})
	word = wordOfPlace(t, load)
	wantStep(t, flat{withWord(empty, 5, word), h}, flat{withWord(empty, 5, word), hartAt(6, 0, 9, word, 0)})
	// It comes to the place again, and does what stands there now: it halts.
	mem := withWord(withWord(empty, 5, wordOfPlace(t, store)), 6, wordOfPlace(t, impl.Ins{Op: impl.InJump, N: 5}))
	words, harts := impl.FlatRun(mem, []impl.Hart{h}, []int{0, 0, 0, 0})
	wantHart(t, harts[0], inState(h, impl.HtHalt))
	if !slices.Equal(words, withWord(mem, 5, 9)) {
		t.Error("what was written", words)
	}
}

func wantHart(t *testing.T, got, want impl.Hart) {
	t.Helper()
	if !sameHart(got, want) {
		t.Errorf("the hart is %v, not %v", got, want)
	}
}

// busyMemory does something at each address: it writes.
func busyMemory(t *testing.T) []int {
	t.Helper()
	return slices.Repeat([]int{wordOfPlace(t, impl.Ins{Op: impl.InSwap, R: 1, A: 2, B: 3, N: 1})}, 24)
}

func TestFlatStepOfWrongMemories(t *testing.T) {
	mem := busyMemory(t)
	h := hartAt(3, 0, 0, 9, 7)
	if got := stepped(flat{mem, h}); got.Hart.Pc != 4 || got.Mem[10] != leftBy(mem[10]+7, 65536) {
		t.Fatal("the right memory does nothing:", got)
	}
	for _, count := range []int{0, 1, 4, 11, 22, 23, 25, 26, 48} {
		wantNoStep(t, flat{slices.Repeat(mem[:1], count), h})
	}
	for at := range mem {
		for _, n := range noWordAtAll {
			wantNoStep(t, flat{withWord(mem, at, n), h})
		}
	}
	// What would halt or fault does not do so either.
	for _, w := range []int{0, 9} {
		list := withWord(mem, 3, w)
		wantNoStep(t, flat{list[:23], h})
		wantNoStep(t, flat{append(slices.Clone(list), 1), h})
		wantNoStep(t, flat{withWord(list, 20, -1), h})
		wantNoStep(t, flat{withWord(list, 20, impl.MaxWord+1), h})
	}
}

func TestFlatStepOfHartsThatDoNotRun(t *testing.T) {
	for _, mem := range [][]int{busyMemory(t), make([]int, 24), nil, {1, 2}, withWord(busyMemory(t), 0, -1)} {
		for _, h := range append(idleHarts(), wrongHarts()...) {
			wantNoStep(t, flat{mem, h})
		}
	}
}

// drawnPlace is any right place.
func drawnPlace(r *rand.Rand) impl.Ins {
	o := insOps[r.Intn(len(insOps))]
	x := impl.Ins{Op: o.op}
	for i, f := range insFields {
		if o.names[i] {
			x = withField(x, f, r.Intn(f.most+1))
		}
	}
	return x
}

func drawnWord(r *rand.Rand) int {
	switch r.Intn(3) {
	case 0:
		return someWords[r.Intn(len(someWords))]
	case 1:
		return r.Intn(40)
	}
	return r.Intn(impl.MaxWord + 1)
}

// drawnMemory is mostly program, so that harts go on in it for a while.
func drawnMemory(r *rand.Rand) []int {
	mem := make([]int, 24)
	for i := range mem {
		if mem[i] = drawnWord(r); r.Intn(8) > 0 {
			mem[i] = sumOf(drawnPlace(r))
		}
	}
	return mem
}

func drawnHart(r *rand.Rand) impl.Hart {
	return hartAt(r.Intn(24), drawnWord(r), drawnWord(r), drawnWord(r), drawnWord(r))
}

func TestFlatStepAsTheWordsGo(t *testing.T) {
	r := rand.New(rand.NewSource(9))
	wrote := 0
	for range 40000 {
		f := flat{drawnMemory(r), drawnHart(r)}
		want := stepByWords(f)
		if got := stepped(f); !sameFlat(got, want) {
			t.Fatalf("FlatStep of %v is %v, not %v", f, got, want)
		}
		if !slices.Equal(f.Mem, want.Mem) {
			wrote++
		}
	}
	if wrote < 1000 {
		t.Error("too little was written to tell anything:", wrote)
	}
}

// turnedWords are the addresses at which two memories differ.
func turnedWords(a, b []int) []int {
	var list []int
	for i := range a {
		if a[i] != b[i] {
			list = append(list, i)
		}
	}
	return list
}

// The promise: one word at most, that of the Target, and its own hart alone.
func TestAStepTurnsOneWordAtMost(t *testing.T) {
	r := rand.New(rand.NewSource(90))
	turns := [2]int{}
	for range 3000 {
		mem := drawnMemory(r)
		harts := []impl.Hart{drawnHart(r), drawnHart(r), drawnHart(r)}
		for range 12 {
			who := r.Intn(3)
			x, _ := impl.Decode(mem[harts[who].Pc])
			at := impl.Target(x, harts[who].Regs)
			after, hartsAfter := impl.FlatRun(mem, harts, []int{who})
			words, h := impl.FlatStep(mem, harts[who])
			if !slices.Equal(after, words) || !sameHart(hartsAfter[who], h) {
				t.Fatalf("FlatRun of one step and FlatStep differ: %v %v, %v %v", after, hartsAfter, words, h)
			}
			list := turnedWords(mem, after)
			if len(after) != 24 || len(list) > 1 || len(list) == 1 && (list[0] != at || x.Op != impl.InStore && x.Op != impl.InSwap) {
				t.Fatalf("%+v of %v turned the words at %v", x, harts[who], list)
			}
			for i := range harts {
				if i != who && !sameHart(harts[i], hartsAfter[i]) {
					t.Fatalf("a step of %d turned %d: %v, %v", who, i, harts[i], hartsAfter[i])
				}
			}
			if !impl.HartOk(h) {
				t.Fatalf("a right hart is so no more: %v", h)
			}
			turns[len(list)]++
			mem, harts = after, hartsAfter
		}
	}
	if min(turns[0], turns[1]) < 1000 {
		t.Error("too little turned to tell anything:", turns)
	}
}

// A flatRun is what FlatRun is given and what it answers (Order stays as it was).
type flatRun struct {
	Mem   []int
	Harts []impl.Hart
	Order []int
}

func ran(g flatRun) flatRun {
	mem, harts := impl.FlatRun(g.Mem, g.Harts, g.Order)
	return flatRun{mem, harts, nil}
}

func sameRun(a, b flatRun) bool { return slices.Equal(a.Mem, b.Mem) && sameHarts(a.Harts, b.Harts) }

func wantFlatRun(t *testing.T, g, want flatRun) {
	t.Helper()
	given := roomy(g)
	before := whole(given)
	if got := ran(given); !sameRun(got, want) {
		t.Errorf("FlatRun of %v is %v, not %v", g, got, want)
	}
	wantUnwritten(t, given, before)
}

func wantNoFlatRun(t *testing.T, g flatRun) {
	t.Helper()
	wantFlatRun(t, g, g)
}

// runByWords is FlatRun as the document has it.
func runByWords(g flatRun) flatRun {
	if len(g.Order) > 2000 {
		return g
	}
	out := flatRun{g.Mem, slices.Clone(g.Harts), nil}
	for _, i := range g.Order {
		if i >= 0 && i < len(out.Harts) {
			f := stepByWords(flat{out.Mem, out.Harts[i]})
			out.Mem, out.Harts[i] = f.Mem, f.Hart
		}
	}
	return out
}

// addingProgram adds 1 to the word at 20, three times, and halts: 14 steps.
func addingProgram(t *testing.T) []int {
	t.Helper()
	return memoryOf(t,
		impl.Ins{Op: impl.InSet, R: 1, N: 3},
		impl.Ins{Op: impl.InSet, R: 2, N: 1},
		impl.Ins{Op: impl.InSwap, R: 3, A: 0, B: 2, N: 20},
		impl.Ins{Op: impl.InSub, R: 1, A: 1, B: 2},
		impl.Ins{Op: impl.InZero, A: 1, N: 6},
		impl.Ins{Op: impl.InJump, N: 2},
		impl.Ins{Op: impl.InHalt},
	)
}

func TestFlatRunOfAProgram(t *testing.T) {
	mem := addingProgram(t)
	start := []impl.Hart{impl.HartNew(0)}
	cases := []struct {
		steps, word int
		want        impl.Hart
	}{
		{0, 0, hartAt(0, 0, 0, 0, 0)},
		{2, 0, hartAt(2, 0, 3, 1, 0)},
		{3, 1, hartAt(3, 0, 3, 1, 0)},
		{5, 1, hartAt(5, 0, 2, 1, 0)},
		{6, 1, hartAt(2, 0, 2, 1, 0)},
		{7, 2, hartAt(3, 0, 2, 1, 1)},
		{13, 3, hartAt(6, 0, 0, 1, 2)},
		{14, 3, inState(hartAt(6, 0, 0, 1, 2), impl.HtHalt)},
		{15, 3, inState(hartAt(6, 0, 0, 1, 2), impl.HtHalt)},
		{2000, 3, inState(hartAt(6, 0, 0, 1, 2), impl.HtHalt)},
	}
	for _, c := range cases {
		wantFlatRun(t, flatRun{mem, start, make([]int, c.steps)}, flatRun{withWord(mem, 20, c.word), []impl.Hart{c.want}, nil})
	}
}

// Whoever goes on when, what is added is not lost.
func TestFlatRunOfSeveralHarts(t *testing.T) {
	r := rand.New(rand.NewSource(91))
	mem := addingProgram(t)
	for count := 1; count <= 5; count++ {
		var harts []impl.Hart
		var order []int
		for i := range count {
			harts = append(harts, impl.HartNew(24*i))
			order = append(order, slices.Repeat([]int{i}, 14)...)
		}
		for range 200 {
			r.Shuffle(len(order), func(i, j int) { order[i], order[j] = order[j], order[i] })
			words, after := impl.FlatRun(mem, harts, order)
			if words[20] != 3*count {
				t.Errorf("%d harts came to %d", count, words[20])
			}
			for _, h := range after {
				if h.State != impl.HtHalt || h.Pc != 6 || h.Regs[1] != 0 {
					t.Errorf("of %d harts one is %v", count, h)
				}
			}
		}
	}
}

func TestFlatRunOfNothing(t *testing.T) {
	mem := addingProgram(t)
	harts := []impl.Hart{impl.HartNew(0), impl.HartNew(1)}
	wantNoFlatRun(t, flatRun{mem, harts, nil})
	wantNoFlatRun(t, flatRun{mem, harts, []int{}})
	wantNoFlatRun(t, flatRun{mem, nil, nil})
	wantNoFlatRun(t, flatRun{mem, nil, []int{0, 0, 1, -1}})
	wantNoFlatRun(t, flatRun{nil, nil, nil})
	wantNoFlatRun(t, flatRun{nil, harts, []int{0, 1}})
}

// A number that names no hart is passed over: what stands behind it is done.
func TestFlatRunWithNumbersOfNoHart(t *testing.T) {
	mem := addingProgram(t)
	for count := 1; count <= 3; count++ {
		var harts, once []impl.Hart
		for range count {
			harts = append(harts, impl.HartNew(0))
			once = append(once, hartAt(1, 0, 3, 0, 0))
		}
		for _, none := range append([]int{count, count + 1, -count, 2 * count, 24, 2000, 65536}, farNumbers...) {
			wantNoFlatRun(t, flatRun{mem, harts, []int{none}})
			wantNoFlatRun(t, flatRun{mem, harts, slices.Repeat([]int{none}, 2000)})
			order := []int{none}
			for i := range count {
				order = append(order, i, none, none)
			}
			wantFlatRun(t, flatRun{mem, harts, order}, flatRun{mem, once, nil})
		}
	}
}

// countingMemory counts in register 0, two steps a time.
func countingMemory(t *testing.T) []int {
	t.Helper()
	return memoryOf(t, impl.Ins{Op: impl.InMore, R: 0, A: 0, N: 1}, impl.Ins{Op: impl.InJump})
}

func TestFlatRunAtMaxOrder(t *testing.T) {
	mem, harts := countingMemory(t), []impl.Hart{impl.HartNew(0), impl.HartNew(0)}
	order := slices.Repeat([]int{0}, 2000)
	wantFlatRun(t, flatRun{mem, harts, order[:1999]}, flatRun{mem, []impl.Hart{hartAt(1, 1000, 0, 0, 0), impl.HartNew(0)}, nil})
	wantFlatRun(t, flatRun{mem, harts, order}, flatRun{mem, []impl.Hart{hartAt(0, 1000, 0, 0, 0), impl.HartNew(0)}, nil})
	for _, more := range []int{0, 1, 2, -1} {
		wantNoFlatRun(t, flatRun{mem, harts, append(slices.Clone(order), more)})
		wantNoFlatRun(t, flatRun{mem, harts, append([]int{more}, order...)})
	}
	wantNoFlatRun(t, flatRun{mem, harts, slices.Repeat([]int{1}, 4000)})
	// All of them count, not those alone that name a hart that runs.
	idle := slices.Repeat([]int{7}, 2000)
	wantNoFlatRun(t, flatRun{mem, harts, append(idle, 0)})
	idle[1234] = 1
	wantFlatRun(t, flatRun{mem, harts, idle}, flatRun{mem, []impl.Hart{impl.HartNew(0), hartAt(1, 1, 0, 0, 0)}, nil})
}

func TestFlatRunWithOneHartMoreThanOnce(t *testing.T) {
	mem, harts := countingMemory(t), []impl.Hart{impl.HartNew(0), impl.HartNew(0), impl.HartNew(0)}
	want := []impl.Hart{hartAt(1, 2, 0, 0, 0), impl.HartNew(0), hartAt(1, 1, 0, 0, 0)}
	for _, order := range [][]int{{0, 0, 0, 2}, {0, 2, 0, 0}, {2, 0, 0, 0}, {0, 0, 2, 0, 3}} {
		wantFlatRun(t, flatRun{mem, harts, order}, flatRun{mem, want, nil})
	}
}

// A wrong hart stays as it was, and keeps no right one from going on.
func TestFlatRunWithWrongHarts(t *testing.T) {
	mem := countingMemory(t)
	for _, bad := range append(wrongHarts(), idleHarts()...) {
		harts := []impl.Hart{bad, impl.HartNew(0), bad, impl.HartNew(1)}
		want := []impl.Hart{bad, hartAt(0, 1, 0, 0, 0), bad, hartAt(0, 0, 0, 0, 0)}
		wantFlatRun(t, flatRun{mem, harts, []int{0, 1, 2, 3, 1, 0, 2}}, flatRun{mem, want, nil})
	}
}

func TestFlatRunOfWrongMemories(t *testing.T) {
	mem := busyMemory(t)
	harts := []impl.Hart{hartAt(3, 0, 0, 9, 7), hartAt(23, 1, 1, 1, 1)}
	order := []int{0, 1, 1, 0}
	if got := ran(flatRun{mem, harts, order}); slices.Equal(got.Mem, mem) {
		t.Fatal("the right memory does nothing:", got)
	}
	for _, count := range []int{0, 1, 23, 25, 48} {
		wantNoFlatRun(t, flatRun{slices.Repeat(mem[:1], count), harts, order})
	}
	for at := range mem {
		for _, n := range noWordAtAll {
			wantNoFlatRun(t, flatRun{withWord(mem, at, n), harts, order})
		}
	}
}

func drawnRun(r *rand.Rand, length int) flatRun {
	g := flatRun{Mem: drawnMemory(r)}
	for range r.Intn(5) {
		g.Harts = append(g.Harts, drawnHart(r))
	}
	for range length {
		g.Order = append(g.Order, r.Intn(6)-1)
	}
	return g
}

func TestFlatRunAsTheWordsGo(t *testing.T) {
	r := rand.New(rand.NewSource(92))
	states := [3]int{}
	for range 3000 {
		g := drawnRun(r, r.Intn(60))
		want := runByWords(g)
		if got := ran(g); !sameRun(got, want) {
			t.Fatalf("FlatRun of %v is %v, not %v", g, got, want)
		}
		for _, h := range want.Harts {
			states[h.State]++
		}
	}
	if slices.Min(states[:]) < 300 {
		t.Error("too few harts run, halt or fault to tell anything:", states)
	}
}

// A run is its halves.
func TestFlatRunInPieces(t *testing.T) {
	r := rand.New(rand.NewSource(93))
	for range 400 {
		g := drawnRun(r, 40)
		want := ran(g)
		at := r.Intn(41)
		half := ran(flatRun{g.Mem, g.Harts, g.Order[:at]})
		if got := ran(flatRun{half.Mem, half.Harts, g.Order[at:]}); !sameRun(got, want) {
			t.Fatalf("FlatRun of %v cut at %d is %v, not %v", g, at, got, want)
		}
	}
}

// flatsOfAllSorts are such that step, and such that do not.
func flatsOfAllSorts(t *testing.T) []flat {
	t.Helper()
	var list []flat
	mems := [][]int{busyMemory(t), addingProgram(t), make([]int, 24), make([]int, 23), make([]int, 25), nil, withWord(busyMemory(t), 4, -1)}
	for _, mem := range mems {
		for _, h := range append(append(runningHarts(), idleHarts()...), wrongHarts()[:20]...) {
			list = append(list, flat{mem, h})
		}
	}
	return list
}

func TestFlatAnswersAreNewMemory(t *testing.T) {
	a, b := impl.HartNew(3), impl.HartNew(3)
	wantNew(t, []impl.Hart{a, b}, nil)
	for _, f := range flatsOfAllSorts(t) {
		f = roomy(f)
		wantNew(t, stepped(f), f)
		for _, x := range somePlaces() {
			for _, got := range []int{0, -1} {
				h, _ := impl.Work(f.Hart, x, got)
				again, _ := impl.Work(f.Hart, x, got)
				wantNew(t, []impl.Hart{h, again}, f.Hart)
			}
		}
		first, second := stepped(f), stepped(f)
		if sharesWith(first, second) {
			t.Errorf("two answers share memory: %v", first)
		}
		for _, order := range [][]int{nil, {0}, {1, 0, 1, -1, 2}, make([]int, 2000), make([]int, 2001)} {
			g := roomy(flatRun{f.Mem, []impl.Hart{f.Hart, impl.HartNew(2)}, order})
			answer, again := ran(g), ran(g)
			wantNew(t, answer, g)
			if sharesWith(answer, again) {
				t.Errorf("two answers share memory: %v", answer)
			}
		}
	}
}

// What is one list in what is handed in: two harts with the same registers, and
// registers that are words of the memory.
func TestFlatAnswersShareNothingThatArgumentsShare(t *testing.T) {
	mem := countingMemory(t)
	h := hartAt(0, 5, 6, 7, 8)
	g := flatRun{mem, []impl.Hart{h, h}, []int{0, 0, 0}}
	got := ran(g)
	if !sameRun(got, flatRun{mem, []impl.Hart{hartAt(1, 7, 6, 7, 8), h}, nil}) || sharesWithin(got) || sharesWith(got, g) {
		t.Error("two harts with the same registers:", got)
	}
	for _, order := range [][]int{nil, make([]int, 2001)} {
		got := ran(flatRun{mem, []impl.Hart{h, h}, order})
		if !sameHarts(got.Harts, []impl.Hart{h, h}) || sharesWithin(got) {
			t.Error("two harts with the same registers, as they were:", got)
		}
	}
	busy := busyMemory(t)
	within := flat{busy, impl.Hart{Regs: busy[4:8], Pc: 9}}
	want := stepByWords(cloneOf(within))
	if got := stepped(within); !sameFlat(got, want) || sharesWithin(got) || sharesWith(got, within) {
		t.Errorf("registers within the memory: %v, not %v", got, want)
	}
	if !slices.Equal(busy, busyMemory(t)) {
		t.Error("the memory was written into:", busy)
	}
	numbers := []int{0, 0, 0, 0}
	if got := ran(flatRun{mem, []impl.Hart{{Regs: numbers}}, numbers}); got.Harts[0].Regs[0] != 2 || numbers[0] != 0 {
		t.Error("registers that are the order:", got)
	}
}

func TestFlatWritesIntoNoArgument(t *testing.T) {
	for _, f := range flatsOfAllSorts(t) {
		given := roomy(f)
		before := whole(given)
		impl.HartOk(given.Hart)
		for _, x := range somePlaces() {
			impl.Target(x, given.Hart.Regs)
			impl.Work(given.Hart, x, 7)
			impl.Work(given.Hart, x, -1)
		}
		impl.FlatStep(given.Mem, given.Hart)
		wantUnwritten(t, given, before)
		g := roomy(flatRun{f.Mem, []impl.Hart{f.Hart, impl.HartNew(2), f.Hart}, []int{0, 1, 2, 3, -1, 1, 1, 0}})
		all := whole(g)
		impl.FlatRun(g.Mem, g.Harts, g.Order)
		wantUnwritten(t, g, all)
	}
}

// flatAnswers are what the functions of the chapter answer of one memory, hart
// and place.
type flatAnswers struct {
	ok           bool
	fresh        impl.Hart
	target, put  int
	work         impl.Hart
	step         flat
	several, odd flatRun
}

func askFlat(f flat, x impl.Ins) flatAnswers {
	var a flatAnswers
	a.ok = impl.HartOk(f.Hart)
	a.fresh = impl.HartNew(f.Hart.Pc)
	a.target = impl.Target(x, f.Hart.Regs)
	a.work, a.put = impl.Work(f.Hart, x, 7)
	a.step = stepped(f)
	a.several = ran(flatRun{f.Mem, []impl.Hart{f.Hart, impl.HartNew(1), f.Hart}, []int{0, 1, 2, 1, 1, 0}})
	a.odd = ran(flatRun{f.Mem, []impl.Hart{f.Hart}, []int{-1, 1, 0, math.MaxInt, math.MinInt}})
	return a
}

// Nothing is kept: what was asked ahead of a call, and what was done to its
// answer, is not seen in the next answer.
func TestFlatIsAnsweredTheSameAgain(t *testing.T) {
	flats, places := flatsOfAllSorts(t), somePlaces()
	var first []flatAnswers
	for i, f := range flats {
		first = append(first, askFlat(f, places[i%len(places)]))
	}
	for i := len(flats) - 1; i >= 0; i-- {
		for range 2 {
			again := askFlat(flats[i], places[i%len(places)])
			if !reflect.DeepEqual(again, first[i]) {
				t.Errorf("%v is answered by %v, and again by %v", flats[i], first[i], again)
			}
			for _, list := range [][]int{again.fresh.Regs, again.work.Regs, again.step.Mem, again.step.Hart.Regs, again.several.Mem} {
				for k := range list {
					list[k] = -5
				}
			}
		}
	}
}

// Whatever is handed in: an answer, and no panic.
func TestFlatAnswersAtAnyArguments(t *testing.T) {
	r := rand.New(rand.NewSource(94))
	odd := append([]int{0, 1, 2, 3, 4, 23, 24, 63, 64, 65535, 65536}, farNumbers...)
	number := func() int { return odd[r.Intn(len(odd))] }
	list := func(most int) []int {
		var out []int
		for range r.Intn(most + 1) {
			out = append(out, number())
		}
		return out
	}
	for range 20000 {
		h := impl.Hart{Regs: list(6), Pc: number(), State: number()}
		x := impl.Ins{Op: number(), R: number(), A: number(), B: number(), N: number()}
		f := flat{list(26), h}
		if at := impl.Target(x, h.Regs); at < -1 || at > 23 {
			t.Errorf("Target(%+v, %v) is %d", x, h.Regs, at)
		}
		if _, put := impl.Work(h, x, number()); put < -1 || put > impl.MaxWord {
			t.Errorf("Work(%v, %+v) writes %d", h, x, put)
		}
		if got := stepped(f); len(got.Mem) != len(f.Mem) {
			t.Errorf("FlatStep of %v is %v", f, got)
		}
		if got := ran(flatRun{f.Mem, []impl.Hart{h, {}, impl.HartNew(number())}, list(9)}); len(got.Mem) != len(f.Mem) || len(got.Harts) != 3 {
			t.Errorf("FlatRun of %v is %v", f, got)
		}
	}
}
