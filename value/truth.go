package value

import "tallyhouse/api"

// truth is one of three truths; a number that is none of them counts as null.
type truth api.Truth

const (
	no   = truth(api.TruthNo)
	yes  = truth(api.TruthYes)
	null = truth(api.TruthNull)
)

// truthOf is whether it is so.
func truthOf(so bool) truth {
	if so {
		return yes
	}
	return no
}

// and asks for no and yes alone, so that whatever else there is counts as null.
func (t truth) and(u truth) truth {
	switch {
	case t == no || u == no:
		return no
	case t == yes && u == yes:
		return yes
	}
	return null
}

// or is and, seen from the other side.
func (t truth) or(u truth) truth {
	return t.not().and(u.not()).not()
}

func (t truth) not() truth {
	switch t {
	case no:
		return yes
	case yes:
		return no
	}
	return null
}
