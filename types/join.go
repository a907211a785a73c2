package types

import "slices"

// The types whose names the language gives, and that of a number that may be both an int and a rat.
const (
	truth  = "bool"
	whole  = "int"
	exact  = "rat"
	number = "num"
)

// fits tells whether something of a type may stand where another one is wanted.
func fits(t, wanted string) bool {
	return t == wanted || t == number && (wanted == whole || wanted == exact)
}

// fitAll tells whether types fit others, one by one.
func fitAll(l, wanted []string) bool {
	return slices.EqualFunc(l, wanted, fits)
}

// join tells what two types join to, if they do.
func join(a, b string) (string, bool) {
	if fits(a, b) {
		return b, true
	}
	return a, fits(b, a)
}

// joinAll tells what types join to, one at least, if they do.
func joinAll(l []string) (string, bool) {
	t, ok := l[0], true
	for _, other := range l[1:] {
		if ok {
			t, ok = join(t, other)
		}
	}
	return t, ok
}
