// Package alike holds values of any type against each other.
package alike

// Same is v == w, and false where that panics: T may be an interface, and hold what can't be compared.
func Same[T comparable](v, w T) (equal bool) {
	defer func() {
		if recover() != nil {
			equal = false
		}
	}()
	return v == w
}
