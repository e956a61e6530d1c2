package pay

import (
	"swarf/api"
	"swarf/span"
)

// unread stands in a read for a letter or digit that could not be read.
const unread = '?'

// isSign tells whether a byte is one of those that codes have.
func isSign(b byte) bool { return b >= 'A' && b <= 'Z' || b >= '0' && b <= '9' }

// isReadable tells whether a byte is one of those that reads have.
func isReadable(b byte) bool { return isSign(b) || b == unread }

// checkWord returns the error of a code or a read, which has bytes of one kind alone.
func checkWord(word string, isRight func(byte) bool) api.Errno {
	if !span.IsWithin(len(word), 1, api.MaxCode) {
		return api.ErrForm
	}
	for at := range len(word) {
		if !isRight(word[at]) {
			return api.ErrForm
		}
	}
	return api.OK
}

// checkList returns the first error of a list of tags.
func checkList(list []api.Tag) api.Errno {
	if e := span.Count(len(list), 0, api.MaxTags); e != api.OK {
		return e
	}
	for at, tag := range list {
		if e := checkWord(tag.Code, isSign); e != api.OK {
			return e
		}
		if !span.IsWithin(tag.Hold, 0, api.MaxHold) {
			return api.ErrValue
		}
		for _, before := range list[:at] {
			if before.Code == tag.Code {
				return api.ErrRepeat
			}
		}
	}
	return api.OK
}

// checkReads returns the first error of reads, each by itself.
func checkReads(reads []string) api.Errno {
	if e := span.Count(len(reads), 1, api.MaxReads); e != api.OK {
		return e
	}
	for _, read := range reads {
		if e := checkWord(read, isReadable); e != api.OK {
			return e
		}
		if len(read) != len(reads[0]) {
			return api.ErrForm
		}
	}
	return api.OK
}

// checkTags returns the first error of a list of tags, or of reads; otherwise what the reads tell of a code.
func checkTags(list []api.Tag, reads []string) (code, api.Errno) {
	if e := checkList(list); e != api.OK {
		return nil, e
	}
	if e := checkReads(reads); e != api.OK {
		return nil, e
	}
	return codeBy(reads)
}

// place is what may be at a place of a code, and whether this is one letter or digit alone.
type place struct {
	mayBe   func(sign byte) bool
	isKnown bool
}

// placeOf returns a place at which a letter or digit was read.
func placeOf(sign byte) place {
	return place{mayBe: func(other byte) bool { return other == sign }, isKnown: true}
}

// code is what is known of the code of a thing, place by place.
type code []place

// codeBy returns what valid reads tell of a code, or ErrConflict if they contradict each other.
func codeBy(reads []string) (code, api.Errno) {
	c := make(code, len(reads[0]))
	for at := range c {
		c[at].mayBe = isSign
	}
	for _, read := range reads {
		for at := range c {
			sign := read[at]
			if sign == unread {
				continue
			}
			if !c[at].mayBe(sign) {
				return nil, api.ErrConflict
			}
			c[at] = placeOf(sign)
		}
	}
	return c, api.OK
}

// isKnown tells whether a code is one alone.
func (c code) isKnown() bool {
	for _, p := range c {
		if !p.isKnown {
			return false
		}
	}
	return true
}

// mayBe tells whether a code may be that one.
func (c code) mayBe(word string) bool {
	if len(word) != len(c) {
		return false
	}
	for at, p := range c {
		if !p.mayBe(word[at]) {
			return false
		}
	}
	return true
}

// fitting returns the tags of a list whose code may be that of the thing.
func fitting(list []api.Tag, c code) []int {
	var tags []int
	for at, tag := range list {
		if c.mayBe(tag.Code) {
			tags = append(tags, at)
		}
	}
	return tags
}
