package log

import (
	"writkeep/api"
	"writkeep/little"
	"writkeep/row"
)

// What a sector has.
const (
	change = 'o'
	end    = 'c'
)

// Where its number, how many bytes follow, and these stand in a sector.
const (
	numberAt = 1
	sizeAt   = 5
	textAt   = 7
)

// sectors of a deed that stands behind the last one.
func (l *Log) sectors(c []api.Change) ([]string, error) {
	var out []string
	n := l.first + l.used
	for i := range c {
		text, err := row.Bytes(c[i])
		if err != nil {
			return nil, err
		}
		out = append(out, sector(change, n+i, text))
	}
	return append(out, sector(end, n+len(c), count(c))), nil
}

// count of a deed's changes, as its last sector has it.
func count(c []api.Change) string { return little.Bytes(len(c), 4) }

// sector of a kind and a number, with a text.
func sector(kind byte, n int, text string) string {
	return string([]byte{kind}) + little.Bytes(n, sizeAt-numberAt) + little.Bytes(len(text), textAt-sizeAt) + text
}

// parse a sector of that number: its kind and its text; false: it isn't written.
func parse(s string, n int) (byte, string, bool) {
	kind, size := s[0], little.Number(s[sizeAt:textAt])
	if kind != change && kind != end || s[numberAt:sizeAt] != little.Bytes(n, sizeAt-numberAt) || size > api.Sector-textAt {
		return 0, "", false
	}
	return kind, s[textAt : textAt+size], true
}
