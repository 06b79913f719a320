package codec

import (
	"wharfinger/api"
	"wharfinger/object"
)

// wrongForm is what a reader panics with, where the bytes are not what it reads.
type wrongForm struct{}

func giveUp() {
	panic(wrongForm{})
}

// rest is the bytes that are not read yet.
type rest struct {
	bytes []byte
}

// take takes the first n bytes.
func (r *rest) take(n uint64) []byte {
	if n > uint64(len(r.bytes)) {
		giveUp()
	}
	taken := r.bytes[:n]
	r.bytes = r.bytes[n:]
	return taken
}

func (r *rest) one() byte {
	return r.take(1)[0]
}

func (r *rest) end() {
	if len(r.bytes) > 0 {
		giveUp()
	}
}

// reader reads what the rest says.
type reader struct {
	rest
}

// readAll is what read makes of all the bytes.
func readAll[T any](b []byte, read func(*reader) T) (x T, e api.Errno) {
	defer func() {
		switch p := recover().(type) {
		case nil:
		case wrongForm:
			var none T
			x, e = none, api.ErrForm
		default:
			panic(p) // a fault of the program: not to be taken for one of the bytes
		}
	}()
	r := &reader{rest{b}}
	x = read(r)
	r.end()
	return x, api.OK
}

func readChange(r *reader) api.Event {
	var e api.Event
	e.Version = r.number()
	e.Gone = r.gone()
	e.Object = readObject(r)
	return e
}

func readObject(r *reader) api.Object {
	var o api.Object
	o.Kind = api.Kind(r.one())
	o.Name = r.text()
	o.Version = r.number()
	o.Born = r.number()
	o.Deleting, o.Hold, o.Keep, o.Wait = r.flags()
	o.Class = r.text()
	o.Size = r.size()
	o.Got = r.size()
	o.Mode = api.Mode(r.one())
	o.Zone = r.text()
	o.Node = r.text()
	o.Claim = r.text()
	o.Volume = r.text()
	o.Source = r.text()
	o.Phase = api.Phase(r.one())
	o.Num = r.number()
	o.Tag = r.number()
	if !object.Right(o) {
		giveUp()
	}
	return o
}

// number reads a number in the one form that is written: no byte 0 behind others, and nothing from 2^64 on.
func (r *reader) number() uint64 {
	n := uint64(0)
	for shift := 0; ; shift += numberBits {
		b := r.one()
		if shift > 0 && b == 0 || shift == 63 && b > 1 {
			giveUp()
		}
		n |= uint64(b&^more) << shift
		if b < more {
			return n
		}
	}
}

func (r *reader) size() int64 {
	n := r.number()
	if n > api.MaxSize {
		giveUp()
	}
	return int64(n)
}

func (r *reader) text() string {
	return string(r.take(r.number()))
}

func (r *reader) flags() (isDeleting, isHold, isKeep, isWait bool) {
	b := r.one()
	if b >= flagsEnd {
		giveUp()
	}
	return b&deleting != 0, b&hold != 0, b&keep != 0, b&wait != 0
}

func (r *reader) gone() bool {
	b := r.one()
	if b > gone {
		giveUp()
	}
	return b == gone
}
