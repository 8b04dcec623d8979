package expr

import "streamwright/api"

// fault is what is wrong in a text, and where; it is thrown from as deep as
// it is met.
type fault struct {
	at  int
	why api.Errno
}

// caught does something, and tells the fault that was thrown meanwhile.
func caught(do func()) (at int, err error) {
	defer func() {
		if thrown := recover(); thrown != nil {
			// Anything else than a fault would be a mistake of the program's
			// own: the assertion lets none of these pass for an answer.
			f := thrown.(fault)
			at, err = f.at, f.why
		}
	}()
	do()
	return 0, nil
}
