package driver

import "foliot/api"

// refusal is what refuses a source or a script: which kind of outcome that makes, why, and where. While nothing refuses, it is zero.
type refusal struct {
	kind  int
	err   api.Errno
	place int
}

// note takes what a layer told, and tells whether that refuses.
func (r *refusal) note(kind int, err api.Errno, place int) bool {
	if err != api.OK {
		*r = refusal{kind, err, place}
	}
	return r.there()
}

func (r *refusal) there() bool { return r.err != api.OK }

// put makes a refusal, if there is one, all of an outcome.
func (r *refusal) put(out *api.Outcome) {
	if r.there() {
		*out = api.Outcome{Kind: r.kind, Err: r.err, Place: r.place}
	}
}
