package speech

import (
	"testing"

	"hushhouse/api"
)

func TestCaught(t *testing.T) {
	if v, fault := caught(func() int { return 7 }); v != 7 || fault != (api.Fault{}) {
		t.Errorf("what is answered comes as %d, %v", v, fault)
	}
	thrown := api.Fault{Err: api.ErrRange, At: 5}
	if v, fault := caught(func() int { must(false, api.ErrRange, 5); return 7 }); v != 0 || fault != thrown {
		t.Errorf("what is thrown comes as %d, %v", v, fault)
	}
	defer func() {
		if x := recover(); x != "other" {
			t.Errorf("what isn't of a text comes as %v", x)
		}
	}()
	caught(func() int { panic("other") })
}

// TestNumbersOfSigns holds the table of signs against the numbers that tests have.
func TestNumbersOfSigns(t *testing.T) {
	for sign, do := range map[string]int{
		"=": api.TestIs, "<": api.TestLess, "<=": api.TestMost, ">": api.TestMore, ">=": api.TestLeast, "<>": api.TestNot,
		"": 0, "+": 0, "..": 0, "==": 0,
	} {
		if got := doing(sign); got != do {
			t.Errorf("%q is the sign of test %d, not %d", sign, got, do)
		}
	}
}
