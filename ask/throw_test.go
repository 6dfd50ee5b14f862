package ask

import (
	"testing"

	"hushhouse/api"
)

func TestCaught(t *testing.T) {
	if v, err := caught(func() int { return 7 }); v != 7 || err != api.OK {
		t.Errorf("what is answered comes as %d, %d", v, err)
	}
	if v, err := caught(func() int { must(false, api.ErrFit); return 7 }); v != 0 || err != api.ErrFit {
		t.Errorf("what is thrown comes as %d, %d", v, err)
	}
	defer func() {
		if x := recover(); x != "other" {
			t.Errorf("what isn't of a question comes as %v", x)
		}
	}()
	caught(func() int { panic("other") })
}
