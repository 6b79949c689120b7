package tests

import (
	"cmp"
	"reflect"
	"slices"
	"testing"

	"loop.example/g00281/impl"
)

// What these helpers ask holds for every chapter: an answer is new memory,
// and nothing is written into an argument or the spare room behind it.

const spare = 2

// roomy is v with every list in it copied, with spare room behind it in which
// something stands.
func roomy[T any](v T) T {
	return roomyValue(reflect.ValueOf(v)).Interface().(T)
}

func roomyValue(v reflect.Value) reflect.Value {
	out := reflect.New(v.Type()).Elem()
	switch v.Kind() {
	case reflect.Slice:
		list := reflect.MakeSlice(v.Type(), v.Len()+spare, v.Len()+spare)
		for i := range v.Len() {
			list.Index(i).Set(roomyValue(v.Index(i)))
		}
		for i := v.Len(); i < list.Len(); i++ {
			list.Index(i).Set(markOf(v.Type().Elem()))
		}
		out.Set(list.Slice(0, v.Len()))
	case reflect.Struct:
		for i := range v.NumField() {
			out.Field(i).Set(roomyValue(v.Field(i)))
		}
	default:
		out.Set(v)
	}
	return out
}

// markOf is what stands in spare room: nothing that a program would write.
func markOf(typ reflect.Type) reflect.Value {
	out := reflect.New(typ).Elem()
	switch typ.Kind() {
	case reflect.Int:
		out.SetInt(-7777)
	case reflect.Bool:
		out.SetBool(true)
	case reflect.Uint8:
		out.SetUint(77)
	case reflect.String:
		out.SetString("spare")
	case reflect.Slice:
		list := reflect.MakeSlice(typ, 1, 1)
		list.Index(0).Set(markOf(typ.Elem()))
		out.Set(list)
	case reflect.Struct:
		for i := range typ.NumField() {
			out.Field(i).Set(markOf(typ.Field(i).Type))
		}
	}
	return out
}

// cloneOf is v with every list in it copied, with no room behind it.
func cloneOf[T any](v T) T {
	return cloneValue(reflect.ValueOf(v)).Interface().(T)
}

func cloneValue(v reflect.Value) reflect.Value {
	out := reflect.New(v.Type()).Elem()
	switch v.Kind() {
	case reflect.Slice:
		list := reflect.MakeSlice(v.Type(), v.Len(), v.Len())
		for i := range v.Len() {
			list.Index(i).Set(cloneValue(v.Index(i)))
		}
		out.Set(list)
	case reflect.Struct:
		for i := range v.NumField() {
			out.Field(i).Set(cloneValue(v.Field(i)))
		}
	default:
		out.Set(v)
	}
	return out
}

// whole is v with every list in it copied and as long as its room, so that
// two of them tell whether something was written in between.
func whole[T any](v T) T {
	return wholeValue(reflect.ValueOf(v)).Interface().(T)
}

func wholeValue(v reflect.Value) reflect.Value {
	out := reflect.New(v.Type()).Elem()
	switch v.Kind() {
	case reflect.Slice:
		full := v.Slice(0, v.Cap())
		list := reflect.MakeSlice(v.Type(), full.Len(), full.Len())
		for i := range full.Len() {
			list.Index(i).Set(wholeValue(full.Index(i)))
		}
		out.Set(list)
	case reflect.Struct:
		for i := range v.NumField() {
			out.Field(i).Set(wholeValue(v.Field(i)))
		}
	default:
		out.Set(v)
	}
	return out
}

type span struct{ from, to uintptr }

// spansOf lists the room of every list in v.
func spansOf(v reflect.Value) []span {
	var out []span
	switch v.Kind() {
	case reflect.Slice:
		if v.Cap() > 0 {
			from := v.Pointer()
			out = append(out, span{from, from + uintptr(v.Cap())*v.Type().Elem().Size()})
		}
		for i := range v.Len() {
			out = append(out, spansOf(v.Index(i))...)
		}
	case reflect.Struct:
		for i := range v.NumField() {
			out = append(out, spansOf(v.Field(i))...)
		}
	}
	return out
}

// joined is the same room in order, with what meets as one span.
func joined(v any) (list []span, met bool) {
	all := spansOf(reflect.ValueOf(v))
	slices.SortFunc(all, func(a, b span) int { return cmp.Compare(a.from, b.from) })
	for _, s := range all {
		if last := len(list) - 1; last >= 0 && s.from < list[last].to {
			met = true
			list[last].to = max(list[last].to, s.to)
		} else {
			list = append(list, s)
		}
	}
	return list, met
}

func sharesWithin(answer any) bool {
	_, met := joined(answer)
	return met
}

func sharesWith(answer, given any) bool {
	a, _ := joined(answer)
	b, _ := joined(given)
	for len(a) > 0 && len(b) > 0 {
		switch {
		case a[0].to <= b[0].from:
			a = a[1:]
		case b[0].to <= a[0].from:
			b = b[1:]
		default:
			return true
		}
	}
	return false
}

// wantNew asks that an answer is new memory. Several answers, and several
// arguments, go in as one struct each.
func wantNew(t *testing.T, answer, given any) {
	t.Helper()
	if sharesWithin(answer) {
		t.Errorf("two lists of one answer share memory: %v", answer)
	}
	if sharesWith(answer, given) {
		t.Errorf("the answer %v shares memory with the argument %v", answer, given)
	}
}

// wantUnwritten asks that given is what it was when before was made of it by whole.
func wantUnwritten[T any](t *testing.T, given, before T) {
	t.Helper()
	if !reflect.DeepEqual(whole(given), before) {
		t.Errorf("an argument was written into: %v, before %v", whole(given), before)
	}
}

// The helpers themselves: a helper that sees nothing would let all pass.
func TestMemoryHelpers(t *testing.T) {
	type box struct {
		A, B impl.Sender
	}
	s := impl.Sender{Base: 1, Queue: []impl.Msg{{Kind: impl.MgBack, List: []int{1, 2, 3, 4}}}}
	r := roomy(s)
	if sharesWith(r, s) || sharesWithin(r) || cap(r.Queue) == len(r.Queue) || cap(r.Queue[0].List) == len(r.Queue[0].List) {
		t.Error("roomy")
	}
	if c := cloneOf(r); sharesWith(c, r) || sharesWithin(c) || cap(c.Queue) != 1 || !reflect.DeepEqual(c, s) {
		t.Error("cloneOf")
	}
	if !sharesWith(s, s) || !sharesWithin(box{s, s}) || sharesWithin(box{s, r}) {
		t.Error("shares")
	}
	inner := impl.Sender{Queue: []impl.Msg{{List: s.Queue[0].List[1:2:2]}}}
	if !sharesWith(inner, s) || !sharesWith(impl.Sender{Queue: r.Queue[1:]}, r) {
		t.Error("a part is shared")
	}
	before := whole(r)
	if !reflect.DeepEqual(whole(r), before) {
		t.Error("whole")
	}
	_ = append(r.Queue[0].List, 5)
	if reflect.DeepEqual(whole(r), before) {
		t.Error("spare room was written into, unseen")
	}
	before = whole(r)
	r.Queue[0].List[2]++
	if reflect.DeepEqual(whole(r), before) {
		t.Error("a list was written into, unseen")
	}
}
