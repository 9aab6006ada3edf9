package discord

import (
	"math/bits"

	"knurl/api"
)

// mostFaults is how many faults a story can have.
const mostFaults = api.MaxDispute + api.MaxWalks

// set is some corners, or some walks: those whose bits are 1.
type set uint

// everything is all corners, or all walks, and more.
const everything = ^set(0)

func (s set) has(i int) bool { return s>>i&1 == 1 }

func (s set) count() int { return bits.OnesCount(uint(s)) }

// end returns the number behind the last one of the set.
func (s set) end() int { return bits.Len(uint(s)) }

// list returns the numbers in a set, ascending.
func (s set) list() []int {
	var l []int
	for i := range s.end() {
		if s.has(i) {
			l = append(l, i)
		}
	}
	return l
}

// faults are the wrong corners, and how many walks are wrong.
type faults struct {
	corners set
	walks   int
}

func (f faults) count() int { return f.corners.count() + f.walks }

// story stands for all stories with an area and certain wrong corners. Its wrong walks are as few as this area allows: no story with more of them has the fewest faults.
type story struct {
	faults
	area int
}

func whatever(story) bool { return true }

func withoutCorners(s story) bool { return s.corners == 0 }

func withoutWalks(s story) bool { return s.walks == 0 }
