package library

import "sync"

// shelf is what is kept from call to call.
type shelf struct {
	once        sync.Once
	definitions []definition
}

// kept has nothing up to the first call, as the text is read no earlier than it is needed.
var kept = shelf{}

// read is the library's definitions, in the order of the lines. They are all calls' in common: what leaves the package is a twin.
func read() []definition {
	kept.once.Do(func() { kept.definitions = definitions() })
	return kept.definitions
}
