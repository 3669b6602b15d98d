package store

import (
	"iter"
	"strings"

	"writkeep/api"
	"writkeep/disk"
	"writkeep/little"
	"writkeep/log"
	"writkeep/row"
)

// A head begins with a mark, so that what isn't one isn't taken for it.
const mark = "writkeep"

// Where the parts of a head stand behind its mark.
const (
	halfAt  = len(mark)
	firstAt = halfAt + 1
	sizeAt  = firstAt + 8
	headEnd = sizeAt + 2
)

// How many sectors a half has; the head is ahead of both.
const halfSectors = (logAt - 1) / 2

// head: in which of the two halves rows are laid, how many bytes they have, and the number of the log's first sector.
type head struct{ half, first, size int }

// text of a head, as its sector has it.
func (h head) text() string {
	return mark + little.Bytes(h.half, firstAt-halfAt) + little.Bytes(h.first, sizeAt-firstAt) + little.Bytes(h.size, headEnd-sizeAt)
}

// parseHead from its sector; false: it is none.
func parseHead(s string) (head, bool) {
	if !strings.HasPrefix(s, mark) || strings.Trim(s[headEnd:], "\x00") != "" {
		return head{}, false
	}
	h := head{half: little.Number(s[halfAt:firstAt]), first: little.Number(s[firstAt:sizeAt]), size: little.Number(s[sizeAt:headEnd])}
	if h.half > 1 || h.first < 1 || h.size > halfSectors*api.Sector {
		return head{}, false
	}
	return h, true
}

// at: the first sector of its half.
func (h head) at() int { return 1 + h.half*halfSectors }

// lay rows as a whole in the half of a head, and that head, with a new log, by its first number or a higher one.
func lay(d *disk.Disk, h head, rows []api.Change) (head, *log.Log, error) {
	text, err := join(rows)
	if err != nil {
		return head{}, nil, err
	}
	h.size = len(text)
	// Rows go ahead of the head, to the half that the one on the disk doesn't tell of (where none are laid, no half is written to): a fall leaves that head, its rows and its log, or this one.
	if err := write(d, h.at(), text); err != nil {
		return head{}, nil, err
	}
	l, first, err := newLog(d, h.first)
	if err != nil {
		return head{}, nil, err
	}
	h.first = first
	if err := write(d, 0, h.text()); err != nil {
		return head{}, nil, err
	}
	return h, l, nil
}

// newLog, and the number of its first sector, from one on: the first at which what stands there is no deed. (It isn't wiped: until the new head is kept, the old one's log must stand.)
func newLog(d *disk.Disk, first int) (*log.Log, int, error) {
	for {
		l, deeds, err := openLog(d, first)
		if err != nil {
			return nil, 0, err
		}
		if len(deeds) == 0 {
			return l, first, nil
		}
		first++
	}
}

// write a text on sectors, for good.
func write(d *disk.Disk, at int, text string) error {
	for s := range cut(text, func(string) int { return api.Sector }) {
		if err := d.Write(at, s); err != nil {
			return err
		}
		at++
	}
	return d.Flush()
}

// read the rows that a head tells of.
func (h head) read(d *disk.Disk) ([]api.Change, error) {
	var text strings.Builder
	for at := h.at(); text.Len() < h.size; at++ {
		s, err := d.Read(at)
		if err != nil {
			return nil, err
		}
		text.WriteString(s)
	}
	return split(text.String()[:h.size])
}

// join rows to one text: ahead of each how many bytes it has.
func join(rows []api.Change) (string, error) {
	var out strings.Builder
	for _, r := range rows {
		s, err := row.Bytes(r)
		if err != nil {
			return "", err
		}
		out.WriteString(little.Bytes(len(s), 1) + s)
	}
	return out.String(), nil
}

// split a text into its rows.
func split(text string) ([]api.Change, error) {
	var out []api.Change
	for s := range cut(text, func(rest string) int { return 1 + little.Number(rest[:1]) }) {
		r, err := row.Parse(s[1:])
		if err != nil {
			return nil, err
		}
		out = append(out, r)
	}
	return out, nil
}

// cut a text into pieces, each as long as what is left of the text says.
func cut(text string, long func(rest string) int) iter.Seq[string] {
	return func(yield func(string) bool) {
		for rest := text; rest != ""; {
			end := min(long(rest), len(rest))
			if !yield(rest[:end]) {
				return
			}
			rest = rest[end:]
		}
	}
}
