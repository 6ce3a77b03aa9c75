package vary_test

import (
	"testing"

	"doorman/vary"
)

// distinct are the texts, each once.
func distinct(l []string) map[string]bool {
	all := map[string]bool{}
	for _, s := range l {
		all[s] = true
	}
	return all
}

func TestTexts(t *testing.T) {
	all := distinct(vary.Texts("ab"))
	for _, s := range []string{"a", "b", "\x00ab", "a\xffb", "abz", "zb", "az", "\xffb", "a\x00"} {
		if !all[s] {
			t.Fatalf("%q is missing", s)
		}
	}
	// Shorter: 2; of its length: 2 places and 255 other bytes, and itself; longer: 3 places and 256 bytes, where aab and abb come twice.
	if len(all) != 2+2*255+1+3*256-2 {
		t.Fatalf("%d texts", len(all))
	}
}

func TestTextsOfNone(t *testing.T) {
	if n := len(distinct(vary.Texts(""))); n != 256 {
		t.Fatalf("%d texts", n)
	}
}
