// Package vary makes the texts that lie beside a text: the tests of the layers that read texts use it.
package vary

// Texts are the texts that one byte more, one less, or another one at its place makes of a text; some come more than once.
func Texts(s string) []string {
	var l []string
	for i := range len(s) + 1 {
		for c := range 256 {
			x := string([]byte{byte(c)})
			l = append(l, s[:i]+x+s[i:])
			if i < len(s) {
				l = append(l, s[:i]+x+s[i+1:])
			}
		}
		if i < len(s) {
			l = append(l, s[:i]+s[i+1:])
		}
	}
	return l
}
