package trials

import (
	"math/bits"

	"knurl/api"
)

// set is some tests, with a bit for each of them.
type set uint

// count returns how many tests there are.
func (s set) count() int {
	return bits.OnesCount(uint(s))
}

// list returns the tests, ascending.
func (s set) list() []int {
	var l []int
	for i := range api.MaxTests {
		if s>>i&1 == 1 {
			l = append(l, i)
		}
	}
	return l
}

// smallest returns all sets of as few tests as can be that decide a class, or the first error; ErrNone also if all tests together do not decide it.
func smallest(t api.Trial, c api.Class) ([]set, api.Errno) {
	f, e := open(t, validClass(c))
	if e != api.OK {
		return nil, e
	}
	for count := range len(f.Tests) + 1 {
		if l := f.deciding(c, count); len(l) > 0 {
			return l, api.OK
		}
	}
	return nil, api.ErrNone
}

// deciding returns all sets of so many tests that decide a class.
func (f file) deciding(c api.Class, count int) []set {
	var l []set
	for s := range set(1) << len(f.Tests) {
		if s.count() == count && f.just(s).certify(c) != api.Perhaps {
			l = append(l, s)
		}
	}
	return l
}
