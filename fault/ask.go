package fault

import (
	"errors"
	"numeral/api"
	"strings"
)

// Why is the number that an error wraps.
func Why(err error) api.Errno { return first[api.Errno](err) }

// Call is the call that failed.
func Call(err error) (string, bool) {
	f := first[*Fault](err)
	if f == nil {
		return "", false
	}
	return strings.Clone(f.Call), true
}

// Text is the text that it failed at.
func Text(err error) (string, bool) {
	f := first[*Fault](err)
	if f == nil {
		return "", false
	}
	return strings.Clone(f.Text), true
}

// LineOf is the line.
func LineOf(err error) (int, bool) {
	p := first[*Place](err)
	if p == nil {
		return 0, false
	}
	return p.Line, true
}

// first is the first error of a type that errors.As finds; the zero value, if there is none. A stranger's error may panic when it is asked what it wraps: then nothing is found behind it.
func first[T error](err error) (found T) {
	defer func() { recover() }()
	var at T
	if errors.As(err, &at) {
		found = at
	}
	return found
}
