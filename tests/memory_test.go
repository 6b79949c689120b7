package tests

import (
	"cmp"
	"os"
	"reflect"
	"runtime/debug"
	"slices"
	"sync"
	"testing"

	"loop.example/g00281/impl"
)

// What these helpers ask holds for every chapter: an answer is new memory,
// and nothing is written into an argument or the spare room behind it.

const spare = 2

// TestMain has what is made be cleared away more seldom: nearly all of it is
// copies that are looked at once, and clearing them takes most of the time else.
func TestMain(m *testing.M) {
	debug.SetGCPercent(400)
	os.Exit(m.Run())
}

// roomy is v with every list in it copied, with spare room behind it in which
// something stands.
func roomy[T any](v T) T { return copyOf(v, copying{spare: spare}) }

// cloneOf is v with every list in it copied, with no room behind it.
func cloneOf[T any](v T) T { return copyOf(v, copying{}) }

// whole is v with every list in it copied and as long as its room, so that
// two of them tell whether something was written in between.
func whole[T any](v T) T { return copyOf(v, copying{room: true}) }

// A copying says whether the room behind a list is copied as a part of it, and
// how much is left behind the copy.
type copying struct {
	room  bool
	spare int
}

func copyOf[T any](v T, c copying) T {
	var out T
	c.fill(reflect.ValueOf(&out).Elem(), reflect.ValueOf(&v).Elem())
	return out
}

func (c copying) fill(to, from reflect.Value) {
	switch from.Kind() {
	case reflect.Slice:
		to.Set(c.list(from))
	case reflect.Struct:
		if !hasLists(from.Type()) {
			to.Set(from)
			return
		}
		for i := range from.NumField() {
			c.fill(to.Field(i), from.Field(i))
		}
	default:
		to.Set(from)
	}
}

func (c copying) list(from reflect.Value) reflect.Value {
	if c.room {
		from = from.Slice(0, from.Cap())
	}
	size := from.Len() + c.spare
	list := reflect.MakeSlice(from.Type(), size, size)
	if hasLists(from.Type().Elem()) {
		for i := range from.Len() {
			c.fill(list.Index(i), from.Index(i))
		}
	} else {
		reflect.Copy(list, from)
	}
	for i := from.Len(); i < size; i++ {
		list.Index(i).Set(markOf(from.Type().Elem()))
	}
	return list.Slice(0, from.Len())
}

// withLists holds of each struct that was asked for whether there are lists in
// it: what has none is copied at once, which is much faster.
var withLists sync.Map

func hasLists(typ reflect.Type) bool {
	if typ.Kind() != reflect.Struct {
		return typ.Kind() == reflect.Slice
	}
	if has, ok := withLists.Load(typ); ok {
		return has.(bool)
	}
	has := false
	for i := range typ.NumField() {
		has = has || hasLists(typ.Field(i).Type)
	}
	withLists.Store(typ, has)
	return has
}

// markOf is what stands in spare room: nothing that a program would write.
func markOf(typ reflect.Type) reflect.Value {
	out := reflect.New(typ).Elem()
	switch typ.Kind() {
	case reflect.Int:
		out.SetInt(-7777)
	case reflect.Bool:
		out.SetBool(true)
	case reflect.Uint8:
		out.SetUint(77)
	case reflect.String:
		out.SetString("spare")
	case reflect.Slice:
		list := reflect.MakeSlice(typ, 1, 1)
		list.Index(0).Set(markOf(typ.Elem()))
		out.Set(list)
	case reflect.Struct:
		for i := range typ.NumField() {
			out.Field(i).Set(markOf(typ.Field(i).Type))
		}
	}
	return out
}

type span struct{ from, to uintptr }

// spansOf lists the room of every list in v, behind those that are listed.
func spansOf(list []span, v reflect.Value) []span {
	// A nil that stands for no argument is no value at all.
	if !v.IsValid() || !hasLists(v.Type()) {
		return list
	}
	if v.Kind() == reflect.Struct {
		for i := range v.NumField() {
			list = spansOf(list, v.Field(i))
		}
		return list
	}
	elem := v.Type().Elem()
	if v.Cap() > 0 {
		from := v.Pointer()
		list = append(list, span{from, from + uintptr(v.Cap())*elem.Size()})
	}
	if hasLists(elem) {
		for i := range v.Len() {
			list = spansOf(list, v.Index(i))
		}
	}
	return list
}

// joined is the same room in order, with what meets as one span.
func joined(v any) (list []span, met bool) {
	all := spansOf(nil, reflect.ValueOf(v))
	slices.SortFunc(all, func(a, b span) int { return cmp.Compare(a.from, b.from) })
	for _, s := range all {
		if last := len(list) - 1; last >= 0 && s.from < list[last].to {
			met = true
			list[last].to = max(list[last].to, s.to)
		} else {
			list = append(list, s)
		}
	}
	return list, met
}

func sharesWithin(answer any) bool {
	_, met := joined(answer)
	return met
}

func sharesWith(answer, given any) bool {
	a, _ := joined(answer)
	b, _ := joined(given)
	for len(a) > 0 && len(b) > 0 {
		switch {
		case a[0].to <= b[0].from:
			a = a[1:]
		case b[0].to <= a[0].from:
			b = b[1:]
		default:
			return true
		}
	}
	return false
}

// wantNew asks that an answer is new memory. Several answers, and several
// arguments, go in as one struct each.
func wantNew(t *testing.T, answer, given any) {
	t.Helper()
	if sharesWithin(answer) {
		t.Errorf("two lists of one answer share memory: %v", answer)
	}
	if sharesWith(answer, given) {
		t.Errorf("the answer %v shares memory with the argument %v", answer, given)
	}
}

// wantUnwritten asks that given is what it was when before was made of it by whole.
func wantUnwritten[T any](t *testing.T, given, before T) {
	t.Helper()
	if !reflect.DeepEqual(whole(given), before) {
		t.Errorf("an argument was written into: %v, before %v", whole(given), before)
	}
}

// The helpers themselves: a helper that sees nothing would let all pass.
func TestMemoryHelpers(t *testing.T) {
	type box struct {
		A, B impl.Sender
	}
	s := impl.Sender{Base: 1, Queue: []impl.Msg{{Kind: impl.MgBack, List: []int{1, 2, 3, 4}}}}
	r := roomy(s)
	if sharesWith(r, s) || sharesWithin(r) || cap(r.Queue) == len(r.Queue) || cap(r.Queue[0].List) == len(r.Queue[0].List) {
		t.Error("roomy")
	}
	if c := cloneOf(r); sharesWith(c, r) || sharesWithin(c) || cap(c.Queue) != 1 || !reflect.DeepEqual(c, s) {
		t.Error("cloneOf")
	}
	if !sharesWith(s, s) || !sharesWithin(box{s, s}) || sharesWithin(box{s, r}) {
		t.Error("shares")
	}
	inner := impl.Sender{Queue: []impl.Msg{{List: s.Queue[0].List[1:2:2]}}}
	if !sharesWith(inner, s) || !sharesWith(impl.Sender{Queue: r.Queue[1:]}, r) {
		t.Error("a part is shared")
	}
	before := whole(r)
	if !reflect.DeepEqual(whole(r), before) {
		t.Error("whole")
	}
	_ = append(r.Queue[0].List, 5)
	if reflect.DeepEqual(whole(r), before) {
		t.Error("spare room was written into, unseen")
	}
	before = whole(r)
	r.Queue[0].List[2]++
	if reflect.DeepEqual(whole(r), before) {
		t.Error("a list was written into, unseen")
	}
}
