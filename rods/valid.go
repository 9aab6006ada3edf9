package rods

import "knurl/api"

func validUnits(units []int) bool {
	return within(len(units), 1, api.MaxUnits) && allWithin(units, 2, api.MaxPer)
}

func validRates(rates []int) bool {
	return len(rates) <= api.MaxClasses && allWithin(rates, 0, api.MaxRate)
}

func validFields(b api.RodBook) bool {
	if len(b.Fields) > api.MaxFields {
		return false
	}
	found := map[int]bool{}
	for _, f := range b.Fields {
		if found[f.Id] || !within(f.Id, 0, api.MaxId) || !isOwner(f.Owner) || !isClass(b, f.Class) {
			return false
		}
		found[f.Id] = true
	}
	return true
}

func validMeasures(b api.RodBook) bool {
	if len(b.Measures) > api.MaxMeasures {
		return false
	}
	for _, m := range b.Measures {
		if !isField(b, m.Field) || !isAcre(m.Area.Low) || !isAcre(m.Area.High) || m.Area.Low > m.Area.High {
			return false
		}
	}
	return true
}

// isField returns whether a number is the Id of a field.
func isField(b api.RodBook, id int) bool {
	for _, f := range b.Fields {
		if f.Id == id {
			return true
		}
	}
	return false
}

func isOwner(owner int) bool {
	return within(owner, 0, api.MaxOwner)
}

func isClass(b api.RodBook, class int) bool {
	return within(class, 0, len(b.Rates)-1)
}

func isAcre(area int) bool {
	return within(area, 0, api.MaxAcre)
}

func allWithin(l []int, low, high int) bool {
	for _, n := range l {
		if !within(n, low, high) {
			return false
		}
	}
	return true
}

func within(n, low, high int) bool {
	return low <= n && n <= high
}
