package read

import (
	"strings"

	"relayhouse/api"
	"relayhouse/num"
	"relayhouse/text"
)

// reader takes bytes from the front of what is left. Where they aren't what is asked for it has failed, and answers zero values from there on: whoever reads need ask only once, at the end.
type reader struct {
	left   string
	failed bool
}

func (r *reader) fail() { r.left, r.failed = "", true }

func (r *reader) drop(n int) { r.left = r.left[n:] }

func (r *reader) byte() byte {
	if r.left == "" {
		r.fail()
		return 0
	}
	c := r.left[0]
	r.drop(1)
	return c
}

func (r *reader) word() uint16 {
	n, used, e := num.ReadWord(r.left)
	if e != api.OK {
		r.fail()
		return 0
	}
	r.drop(used)
	return uint16(n)
}

// text takes a field that holds a text.
func (r *reader) text() string { return r.field(text.Get(r.left)) }

// data takes a field that holds any bytes.
func (r *reader) data() string { return r.field(text.GetData(r.left)) }

func (r *reader) field(s string, used int, e api.Errno) string {
	if e != api.OK {
		r.fail()
		return ""
	}
	r.drop(used)
	return s
}

// all takes what is left.
func (r *reader) all() string {
	// A copy: a piece of the bytes that are read would hold on to all of them.
	s := strings.Clone(r.left)
	r.left = ""
	return s
}
