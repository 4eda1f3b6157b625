package regex

import (
	"cmp"
	"strconv"
	"strings"

	"chisel/api"
)

// maxTimes is the greatest number in a quantifier.
const maxTimes = 100

// end is what the reader sees after the last character.
const end = -1

// reader reads a pattern. It gives up by a panic, so that none of its methods has to hand an error on.
type reader struct {
	text   []rune
	at     int
	flags  string
	groups int
	long   bool // a number in a quantifier is too great
}

// read returns what a pattern consists of, and the number of its groups.
func read(pattern, flags string) (whole part, groups int, e api.Errno) {
	defer func() {
		if recover() != nil {
			whole, groups, e = nil, 0, api.ErrForm
		}
	}()
	r := &reader{text: []rune(pattern), flags: flags}
	whole = r.pattern()
	if r.peek() != end {
		r.giveUp()
	}
	// Only now is the pattern known to be well formed, which comes before its limits.
	if r.long {
		return nil, 0, api.ErrLong
	}
	return whole, r.groups, api.OK
}

func (r *reader) giveUp() {
	panic(api.ErrForm)
}

// peek returns the next character, or end.
func (r *reader) peek() rune {
	if r.at == len(r.text) {
		return end
	}
	return r.text[r.at]
}

// next reads a character.
func (r *reader) next() rune {
	c := r.peek()
	if c == end {
		r.giveUp()
	}
	r.at++
	return c
}

// take reads the character c, if it is the next one.
func (r *reader) take(c rune) bool {
	if r.peek() != c {
		return false
	}
	r.at++
	return true
}

// need reads the character c.
func (r *reader) need(c rune) {
	if !r.take(c) {
		r.giveUp()
	}
}

func (r *reader) has(flag string) bool {
	return strings.Contains(r.flags, flag)
}

// pattern reads branches up to the end or a closing bracket.
func (r *reader) pattern() part {
	l := branches{r.branch()}
	for r.take('|') {
		l = append(l, r.branch())
	}
	return l
}

func (r *reader) branch() part {
	var l row
	for c := r.peek(); c != end && c != '|' && c != ')'; c = r.peek() {
		l = append(l, r.piece())
	}
	return l
}

func (r *reader) piece() part {
	x := r.atom()
	least, most, ok := r.quantifier()
	if !ok {
		return x
	}
	return repeated{x, least, most, r.take('?')}
}

func (r *reader) atom() part {
	c := r.next()
	switch c {
	case '.':
		return r.dot()
	case '\\':
		return r.set(r.escape())
	case '[':
		return r.class()
	case '^', '$':
		return edge{c == '$', r.has("m")}
	case '(':
		return r.group()
	case '?', '*', '+', '{', '}', ']':
		r.giveUp()
	}
	return r.set(single(c))
}

func (r *reader) dot() part {
	if r.has("s") {
		return r.set(others(nil))
	}
	return r.set(others([]pair{{'\n', '\n'}, {'\r', '\r'}}))
}

// set returns the part for one character of l.
func (r *reader) set(l []pair) part {
	return set{pairs: l, fold: r.has("i")}
}

// escape reads what is after a backslash.
func (r *reader) escape() []pair {
	c := r.next()
	if strings.ContainsRune(`.\?*+{}()[]|^$-`, c) {
		return single(c)
	}
	l := named(c)
	if l == nil {
		r.giveUp()
	}
	return l
}

// class reads what is after an opening square bracket.
func (r *reader) class() part {
	s := set{fold: r.has("i"), not: r.take('^')}
	s.pairs = r.member()
	for !r.take(']') {
		s.pairs = append(s.pairs, r.member()...)
	}
	return s
}

// member reads a member of a class.
func (r *reader) member() []pair {
	low := r.element()
	if !r.take('-') {
		return low
	}
	high := r.element()
	if !isSingle(low) || !isSingle(high) || low[0][0] > high[0][0] {
		r.giveUp()
	}
	return []pair{{low[0][0], high[0][0]}}
}

// element reads a character of a class, or an escape.
func (r *reader) element() []pair {
	c := r.next()
	switch c {
	case '\\':
		return r.escape()
	case '[', ']', '-':
		r.giveUp()
	}
	return single(c)
}

// isSingle reports whether l is one character.
func isSingle(l []pair) bool {
	return len(l) == 1 && l[0][0] == l[0][1]
}

// group reads what is after an opening bracket.
func (r *reader) group() part {
	x := group{n: noGroup}
	if r.take('?') {
		r.need(':')
	} else {
		r.groups++
		x.n = r.groups
	}
	x.inner = r.pattern()
	r.need(')')
	return x
}

// quantifier reads a quantifier without the sign of a lazy one, if there is one.
func (r *reader) quantifier() (least, most int, ok bool) {
	switch {
	case r.take('*'):
		return 0, unbounded, true
	case r.take('+'):
		return 1, unbounded, true
	case r.take('?'):
		return 0, 1, true
	case r.take('{'):
		least, most = r.bounds()
		return least, most, true
	}
	return 0, 0, false
}

// bounds reads what is after an opening curly bracket.
func (r *reader) bounds() (least, most int) {
	low := r.digits()
	least = r.times(low)
	if r.take('}') {
		return least, least
	}
	r.need(',')
	if r.take('}') {
		return least, unbounded
	}
	high := r.digits()
	r.need('}')
	// The numbers can have hundreds of digits: they are compared as they are written.
	if cmp.Or(cmp.Compare(len(low), len(high)), cmp.Compare(low, high)) > 0 {
		r.giveUp()
	}
	return least, r.times(high)
}

// digits reads a number, and returns it without zeros at its beginning.
func (r *reader) digits() string {
	from := r.at
	for c := r.peek(); c >= '0' && c <= '9'; c = r.peek() {
		r.at++
	}
	if r.at == from {
		r.giveUp()
	}
	return strings.TrimLeft(string(r.text[from:r.at]), "0")
}

// times returns the value of digits, and notes if it is too great.
func (r *reader) times(digits string) int {
	n, err := strconv.Atoi("0" + digits)
	if err != nil || n > maxTimes {
		r.long = true
		return 0
	}
	return n
}
