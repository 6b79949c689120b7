package impl

const (
	MaxWord  = 65535
	Words    = 4
	Pages    = 6
	MaxNodes = 4
	MaxSeq   = 100000
)

const (
	MgShare = iota + 1
	MgOwn
	MgData
	MgGone
	MgAck
	MgFetch
	MgBack
)

type Msg struct {
	Kind int
	Page int
	Own  bool
	List []int
}

// A letter is a message in the type of its kind. That type has no room for
// what the kind may not carry, so nothing of the sort can be put on the wire.
type letter interface {
	page() int
}

// A sheet is the page that a letter of any kind is about.
type sheet int

func (s sheet) page() int { return int(s) }

type (
	shareLetter struct{ sheet }
	ownLetter   struct{ sheet }
	dataLetter  struct {
		sheet
		own   bool
		words [Words]int
	}
	goneLetter  struct{ sheet }
	ackLetter   struct{ sheet }
	fetchLetter struct {
		sheet
		own bool
	}
	backLetter struct {
		sheet
		words [Words]int
	}
)

func MsgOk(m Msg) bool {
	_, ok := letterOf(m)
	return ok
}

func letterOf(m Msg) (letter, bool) {
	if m.Page < 0 || m.Page >= Pages {
		return nil, false
	}
	s := sheet(m.Page)
	words, full := wordsOf(m.List)
	plain := !m.Own && len(m.List) == 0
	switch m.Kind {
	case MgShare:
		return shareLetter{s}, plain
	case MgOwn:
		return ownLetter{s}, plain
	case MgData:
		return dataLetter{s, m.Own, words}, full
	case MgGone:
		return goneLetter{s}, plain
	case MgAck:
		return ackLetter{s}, plain
	case MgFetch:
		return fetchLetter{s, m.Own}, len(m.List) == 0
	case MgBack:
		return backLetter{s, words}, full && !m.Own
	}
	return nil, false
}

func isWord(n int) bool { return n >= 0 && n <= MaxWord }

func wordsOf(list []int) ([Words]int, bool) {
	var words [Words]int
	if len(list) != Words {
		return words, false
	}
	for i, w := range list {
		if !isWord(w) {
			return words, false
		}
		words[i] = w
	}
	return words, true
}

func PutNum(n int) []byte {
	if n < 0 || n > MaxSeq {
		return nil
	}
	return appendNum(nil, n)
}

func appendNum(out []byte, n int) []byte {
	for n >= 128 {
		out = append(out, byte(n%128+128))
		n /= 128
	}
	return append(out, byte(n))
}

func GetNum(b []byte, at int) (int, int, bool) {
	if at < 0 || at > len(b) {
		return 0, 0, false
	}
	n, unit := 0, 1
	for i, c := range b[at:] {
		// A byte of such a weight is too much or needless, and the sum
		// must not wrap round over many bytes.
		if unit > MaxSeq {
			break
		}
		n += int(c%128) * unit
		unit *= 128
		if c >= 128 {
			continue
		}
		needless := c == 0 && i > 0
		if needless || n > MaxSeq {
			break
		}
		return n, at + i + 1, true
	}
	return 0, 0, false
}

func MsgBytes(m Msg) []byte {
	l, ok := letterOf(m)
	if !ok {
		return nil
	}
	var out []byte
	for _, n := range letterNums(l) {
		out = appendNum(out, n)
	}
	return out
}

// letterNums lists the numbers of a letter as they stand on the wire.
func letterNums(l letter) []int {
	switch x := l.(type) {
	case shareLetter:
		return headNums(MgShare, l, false)
	case ownLetter:
		return headNums(MgOwn, l, false)
	case dataLetter:
		return append(headNums(MgData, l, x.own), x.words[:]...)
	case goneLetter:
		return headNums(MgGone, l, false)
	case ackLetter:
		return headNums(MgAck, l, false)
	case fetchLetter:
		return headNums(MgFetch, l, x.own)
	case backLetter:
		return append(headNums(MgBack, l, false), x.words[:]...)
	}
	return nil
}

func headNums(kind int, l letter, own bool) []int {
	flag := 0
	if own {
		flag = 1
	}
	return []int{kind, l.page(), flag}
}

// A reader goes over bytes number by number; bad stays once it is set, so it
// need be asked only once, at the end.
type reader struct {
	bytes []byte
	at    int
	bad   bool
}

func (r *reader) num() int {
	n, next, ok := GetNum(r.bytes, r.at)
	if !ok {
		r.bad = true
		return 0
	}
	r.at = next
	return n
}

func (r *reader) flag() bool {
	n := r.num()
	if n > 1 {
		r.bad = true
	}
	return n == 1
}

// words takes what is left, up to Words: whether that is right for the kind
// is for MsgOk to say.
func (r *reader) words() []int {
	var list []int
	for len(list) < Words && !r.bad && r.at < len(r.bytes) {
		list = append(list, r.num())
	}
	return list
}

func (r *reader) readAll() bool { return !r.bad && r.at == len(r.bytes) }

func MsgOf(b []byte) (Msg, bool) {
	r := &reader{bytes: b}
	var m Msg
	m.Kind = r.num()
	m.Page = r.num()
	m.Own = r.flag()
	m.List = r.words()
	if !r.readAll() || !MsgOk(m) {
		return Msg{}, false
	}
	return m, true
}
