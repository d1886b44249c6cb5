package note

import (
	"strconv"
	"strings"

	"hortator/api"
)

// reader goes over a text from its front. Once something is not as it was asked for, it is bad and stays so: thus the callers look just once, at the end.
type reader struct {
	rest string
	bad  bool
}

// more says whether there is something left that may be good.
func (r *reader) more() bool {
	return !r.bad && r.rest != ""
}

// ended says whether all was read, and all of it was good.
func (r *reader) ended() bool {
	return !r.bad && r.rest == ""
}

// text goes over the very text want.
func (r *reader) text(want string) {
	rest, ok := strings.CutPrefix(r.rest, want)
	if !ok {
		r.bad = true
		return
	}
	r.rest = rest
}

// number goes over the text ahead and over the number behind it, and answers the number.
func (r *reader) number(ahead string) int64 {
	r.text(ahead)
	if r.bad {
		return 0
	}
	n := digits(r.rest)
	v, err := strconv.ParseInt(r.rest[:n], 10, 64)
	if err != nil || n > 1 && r.rest[0] == '0' {
		r.bad = true
		return 0
	}
	r.rest = r.rest[n:]
	return v
}

// agents goes over the agents of resources, at least one. It stops at the most that there may be, so that no text makes it fill the memory.
func (r *reader) agents() []int {
	list := []int{int(r.number(" "))}
	for r.more() && len(list) < api.MaxRes {
		list = append(list, int(r.number(" ")))
	}
	return list
}

// sections goes over sections, and stops at the most that there may be, likewise.
func (r *reader) sections() []api.Section {
	var list []api.Section
	for r.more() && len(list) < api.MaxSecs {
		var s api.Section
		s.Res = int(r.number(" "))
		s.At = r.number("@")
		s.Len = r.number("+")
		list = append(list, s)
	}
	return list
}

// digits answers how many digits s begins with. Just these are handed to strconv, which would take a sign, too.
func digits(s string) int {
	n := 0
	for n < len(s) && '0' <= s[n] && s[n] <= '9' {
		n++
	}
	return n
}
