package seek

import (
	"strconv"
	"strings"
)

// documentLine writes a document in signs of ASCII alone, whatever bytes its
// texts have, so that it ends with its line.
func documentLine(id int, texts []string) string {
	line := strconv.Itoa(id)
	for _, text := range texts {
		line += " " + strconv.QuoteToASCII(text)
	}
	return line + "\n"
}

// read takes the documents of an image into an engine that has none. It may
// take them from what is written in other ways, too: the image is held against
// what the engine writes then.
func (e *Engine) read(image string) bool {
	lines, ok := strings.CutPrefix(image, e.Save())
	if !ok {
		return false
	}
	for line := range strings.Lines(lines) {
		if !e.readDocument(line) {
			return false
		}
	}
	return e.Save() == image
}

// readDocument refuses one that is there already, so that no more are read
// than an engine can have, however long the image is.
func (e *Engine) readDocument(line string) bool {
	number, rest, _ := strings.Cut(line, " ")
	id, fault := strconv.Atoi(number)
	if fault != nil || e.has(id) {
		return false
	}
	err, _ := e.Put(id, readTexts(rest))
	return err == OK
}

func readTexts(line string) []string {
	var texts []string
	for {
		quoted, fault := strconv.QuotedPrefix(line)
		if fault != nil {
			return texts
		}
		text, _ := strconv.Unquote(quoted)
		texts = append(texts, text)
		line = strings.TrimPrefix(line[len(quoted):], " ")
	}
}
