package delta

import (
	"clew/api"
	"clew/event"
	"clew/vint"
)

// reader goes along bytes, number by number, up to the first error.
type reader struct {
	b   []byte
	at  int
	err api.Errno
}

// hold is where something has to be so; of several errors the first one stays.
func (r *reader) hold(so bool) {
	if r.err == api.OK && !so {
		r.err = api.ErrForm
	}
}

// number is the next one; behind an error it is 0.
func (r *reader) number() uint64 {
	if r.err != api.OK {
		return 0
	}
	n, size, err := vint.Get(r.b, r.at)
	r.at, r.err = r.at+size, err
	return n
}

// more is how much more something is than it was; a record doesn't tell of what is the same.
func (r *reader) more() int {
	n := r.number()
	r.hold(n != 0)
	return vint.Zag(n)
}

// state is the next one, behind another one.
func (r *reader) state(was event.State) event.State {
	now := was.Own()
	kind := r.number()
	r.hold(kind <= event.None)
	now.Kind = int(kind)
	sum := r.number()
	r.hold(sum <= mostSum)
	n := numbersOf(was)
	for i := range many {
		if sum>>i&1 != 0 {
			n[i] += r.more()
		}
	}
	n.put(&now)
	if sum&capsBit != 0 {
		r.caps(now.Caps)
	}
	return now
}

// caps lets the Caps that are others be so.
func (r *reader) caps(caps []int) {
	others := r.number()
	r.hold(others != 0 && others <= uint64(len(caps)))
	for range others {
		gap := r.number()
		r.hold(gap < uint64(len(caps)))
		more := r.more()
		if r.err != api.OK {
			return
		}
		caps[gap] += more
		caps = caps[gap+1:]
	}
}
