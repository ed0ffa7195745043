package cell

import "tallyhouse/api"

func truth(is bool) api.Value {
	if is {
		return number(1)
	}
	return number(0)
}

// True: is v a number that is not 0?
func True(v api.Value) bool { return v.Kind == api.Int && v.N != 0 }

// A value that is no number is neither true nor false.
func isFalse(v api.Value) bool { return v.Kind == api.Int && v.N == 0 }

// Not turns a truth round; null stays.
func Not(v api.Value) api.Value {
	if v.Kind != api.Int {
		return api.Value{}
	}
	return truth(!True(v))
}

// Both joins two truths by And or Or.
func Both(op int, a, b api.Value) api.Value {
	numbers := a.Kind == api.Int && b.Kind == api.Int
	switch op {
	case api.And:
		if isFalse(a) || isFalse(b) {
			return truth(false)
		}
		if numbers {
			return truth(true)
		}
	case api.Or:
		if True(a) || True(b) {
			return truth(true)
		}
		if numbers {
			return truth(false)
		}
	}
	return api.Value{}
}
