package seek

import "strings"

const maxWord = 8 // letters of a word of a chain

type pair struct{ left, right string }

// step is a stage as the chain writes it: its name (with the bracket, if it
// has one) and what stands in its brackets.
type step struct {
	name      string
	words     []string
	pairs     []pair
	low, high int
}

// plan is a chain that was read.
type plan struct {
	early  []step
	cutter step
	late   []step
}

func (p plan) stages() int { return len(p.early) + 1 + len(p.late) }

func readChain(chain string) (plan, Errno, int) {
	if len(chain) > maxChain {
		return plan{}, ErrLong, 0
	}
	r := chainReader{reader{text: chain}}
	p, ok := r.plan()
	if !ok {
		return plan{}, ErrText, r.at
	}
	if p.stages() > maxStages {
		return plan{}, ErrMany, 0
	}
	return p, OK, 0
}

type chainReader struct{ reader }

func (r *chainReader) plan() (plan, bool) {
	var p plan
	for p.cutter.name == "" {
		s, ok := r.step("tags", "fold", "map(", "words", "blanks", "whole")
		if !ok {
			return p, false
		}
		switch s.name {
		case "words", "blanks", "whole":
			p.cutter = s
			continue
		}
		p.early = append(p.early, s)
		if !r.sign(';') {
			return p, false
		}
	}
	for r.at < len(r.text) {
		if !r.sign(';') {
			return p, false
		}
		s, ok := r.step("low", "stem", "stop(", "syn(", "len(", "gram(", "edge(")
		if !ok {
			return p, false
		}
		p.late = append(p.late, s)
	}
	return p, true
}

func (r *chainReader) step(names ...string) (step, bool) {
	name, ok := r.oneOf(names)
	s := step{name: name}
	switch name {
	case "map(", "syn(":
		s.pairs, ok = list(r, r.pair)
	case "stop(":
		s.words, ok = list(r, r.word)
	case "len(", "gram(", "edge(":
		s.low, s.high, ok = r.bounds()
	}
	return s, ok
}

// oneOf reads one of the names, none of which begins another one. If none
// stands there, the place is behind what stands there of any of them.
func (r *chainReader) oneOf(names []string) (string, bool) {
	longest := 0
	for _, name := range names {
		n := common(r.text[r.at:], name)
		if n == len(name) {
			r.at += n
			return name, true
		}
		longest = max(longest, n)
	}
	r.at += longest
	return "", false
}

// common is how many bytes two texts begin alike.
func common(a, b string) int {
	n := 0
	for n < len(a) && n < len(b) && a[n] == b[n] {
		n++
	}
	return n
}

// list reads items with commas between them, and the bracket behind them.
func list[T any](r *chainReader, item func() (T, bool)) ([]T, bool) {
	items, ok := row(&r.reader, ',', item)
	return items, ok && r.sign(')')
}

func (r *chainReader) pair() (pair, bool) {
	left, ok := r.word()
	if !ok || !r.sign('=') {
		return pair{}, false
	}
	right, ok := r.word()
	return pair{left, right}, ok
}

// word answers a copy, so that what is made of a chain keeps nothing of it.
func (r *chainReader) word() (string, bool) {
	from := r.at
	for r.at < from+maxWord {
		if _, ok := r.byteWithin('a', 'z'); !ok {
			break
		}
	}
	return strings.Clone(r.text[from:r.at]), r.at > from
}

func (r *chainReader) bounds() (low, high int, ok bool) {
	first, ok := r.byteWithin('1', '9')
	if !ok || !r.sign(',') {
		return 0, 0, false
	}
	second, ok := r.byteWithin(first, '9')
	return int(first - '0'), int(second - '0'), ok && r.sign(')')
}
