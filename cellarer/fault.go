package cellarer

import "clavendier/api"

// firstError does something, and returns its first error.
func firstError(do func()) (e api.Errno) {
	defer func() {
		if r := recover(); r != nil {
			// Nothing but the error of a line is ever thrown.
			e = r.(api.Errno)
		}
	}()
	do()
	return api.OK
}

// refuse leaves a line with an error if something is so.
func refuse(is bool, e api.Errno) {
	if is {
		panic(e)
	}
}

// heed leaves a line with what the error of a layer, if there is one, is for a line.
func heed(e api.Errno) {
	switch e {
	case api.OK:
		return
	case api.ErrTownAsk, api.ErrStoreAsk, api.ErrSlopeAsk:
		e = api.ErrRange
	case api.ErrStoreOut:
		e = api.ErrNone
	}
	panic(e)
}
