package script

import (
	"strconv"
	"strings"

	"farebox/api"
)

// fault is why a line is no command, and the place where that was found.
type fault struct {
	why   api.Errno
	place int
}

// Error tells the fault as a text.
func (f fault) Error() string {
	return "no command: error " + strconv.Itoa(int(f.why)) + " at " + strconv.Itoa(f.place)
}

// read is the operation that a line tells; its error is a fault.
func read(line []byte) (api.Op, error) {
	if len(line) > api.MaxLine {
		return api.Op{}, fault{api.ErrLong, 0}
	}
	texts := strings.Split(string(line), " ")
	c, ok := byWord(texts[0])
	if !ok {
		return api.Op{}, fault{api.ErrWord, 0}
	}
	if len(texts) != 1+len(c.fields) {
		return api.Op{}, fault{api.ErrFields, len(line)}
	}
	o := api.Op{Kind: c.kind}
	place := len(c.word) + 1
	for i, f := range c.fields {
		text := texts[i+1]
		if !f.read(&o, text) {
			return api.Op{}, fault{api.ErrNumber, place}
		}
		place += len(text) + 1
	}
	return o, nil
}
