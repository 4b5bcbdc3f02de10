package word

// behind is the place behind the longest run, from a place on, of bytes that belong to it.
func behind(s string, at int, belongs func(b byte) bool) int {
	for at < len(s) && belongs(s[at]) {
		at++
	}
	return at
}

func isBlank(b byte) bool { return b == ' ' || b == '\t' || b == '\n' || b == '\r' }

func isDigit(b byte) bool { return '0' <= b && b <= '9' }

// beginsName takes _ for a letter.
func beginsName(b byte) bool { return 'a' <= b && b <= 'z' || 'A' <= b && b <= 'Z' || b == '_' }

func inName(b byte) bool { return beginsName(b) || isDigit(b) }

// inNumber takes more than numbers have: what a run is that begins like one and is none, tens says.
func inNumber(b byte) bool { return inName(b) || b == '.' }

func inRemark(b byte) bool { return b != '\n' }

// inPiece leaves it to utf which of the bytes of a text may stand in one.
func inPiece(b byte) bool { return b != '"' && b != '\\' }

// idle is the place behind the blanks and remarks that stand from a place on.
func idle(s string, at int) int {
	at = behind(s, at, isBlank)
	for at < len(s) && s[at] == '#' {
		at = behind(s, behind(s, at, inRemark), isBlank)
	}
	return at
}

// nameAt is the longest name that begins at a place, or nothing.
func nameAt(s string, at int) string {
	if at == len(s) || !beginsName(s[at]) {
		return ""
	}
	return s[at:behind(s, at, inName)]
}

// markAt is the longest mark that stands at a place, or nothing.
func markAt(s string, at int) string {
	for long := min(longestMark, len(s)-at); long > 0; long-- {
		if mark := s[at : at+long]; marked(mark) {
			return mark
		}
	}
	return ""
}
