package seek

// reader reads a text from the left on. When one of its methods, or of those
// that are built on them, answers false, at is the place of the byte that the
// grammar has not there.
type reader struct {
	text string
	at   int
}

// byteWithin reads one byte from low to high.
func (r *reader) byteWithin(low, high byte) (byte, bool) {
	if r.at == len(r.text) || r.text[r.at] < low || r.text[r.at] > high {
		return 0, false
	}
	r.at++
	return r.text[r.at-1], true
}

func (r *reader) sign(b byte) bool {
	_, ok := r.byteWithin(b, b)
	return ok
}

// run reads bytes as long as they are of a kind; there may be none.
func (r *reader) run(is func(b byte) bool) string {
	from := r.at
	for r.at < len(r.text) && is(r.text[r.at]) {
		r.at++
	}
	return r.text[from:r.at]
}

// row reads items, one at least, with a sign between them.
func row[T any](r *reader, between byte, item func() (T, bool)) ([]T, bool) {
	var items []T
	for {
		one, ok := item()
		if !ok {
			return nil, false
		}
		items = append(items, one)
		if !r.sign(between) {
			return items, true
		}
	}
}
