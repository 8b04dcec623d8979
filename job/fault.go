package job

// fault is what is wrong in a line; it is thrown from as deep as it is met.
type fault struct {
	why error
}

// caught does something, and tells the fault that was thrown meanwhile.
func caught(do func()) (err error) {
	defer func() {
		if thrown := recover(); thrown != nil {
			// Anything else than a fault would be a mistake of the program's
			// own: the assertion lets none of these pass for an answer.
			err = thrown.(fault).why
		}
	}()
	do()
	return nil
}

// throw throws what was told, if something was.
func throw(err error) {
	if err != nil {
		panic(fault{err})
	}
}
