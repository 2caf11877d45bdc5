package book

import "shellac/api"

const (
	blank  = ' '
	last   = '~'
	end    = '|'
	unread = '?'
	feed   = '\n'

	// values is how many values bytes have.
	values = 94
)

// isMark returns whether a byte has a value, or is a mark that cannot be read.
func isMark(b byte) bool { return blank <= b && b <= last }

// isText returns whether a string is a text.
func isText(s string) bool {
	if len(s) > api.MaxText {
		return false
	}
	for _, b := range []byte(s) {
		if !isMark(b) || b == unread {
			return false
		}
	}
	return true
}

// valueOf returns the value of a byte that has one.
func valueOf(b byte) int {
	if b < unread {
		return int(b) - blank
	}
	return int(b) - blank - 1
}

// byteOf returns the byte that has a value.
func byteOf(value int) byte {
	if value < unread-blank {
		return byte(value + blank)
	}
	return byte(value + blank + 1)
}

// lacking returns the byte whose value makes a sum a multiple, as that of a row or a column has to be.
func lacking(sum int) byte {
	return byteOf((values - sum%values) % values)
}

// join lays a copy of a row over it, and returns whether they agree wherever both can be read.
func join(row, other []byte) bool {
	for n, b := range other {
		if row[n] == unread {
			row[n] = b
		}
		if b != unread && b != row[n] {
			return false
		}
	}
	return true
}
