package fault

import "armoire/api"

// Again: what comes of code for who asks: 0: it is done; 1: it is to be asked again later; 2: the transaction is to be given up, and may be begun anew; 3: it is refused.
func Again(code api.Errno) int {
	n := 3 // of all that no case names, too
	// Each case is one step milder than the one it falls to.
	switch code {
	case api.OK:
		n--
		fallthrough
	case api.ErrLeader, api.ErrWait, api.ErrDown:
		n--
		fallthrough
	case api.ErrLocked, api.ErrChanged, api.ErrRange, api.ErrEpoch, api.ErrVersion, api.ErrAborted:
		n--
	}
	return n
}
