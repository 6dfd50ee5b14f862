package purse_test

import (
	"testing"

	"hushhouse/api"
	"hushhouse/purse"
)

// TestP2OrderFullBook: what is the entry's own fault is told ahead of a full book, and that ahead of all that is told of the purse.
func TestP2OrderFullBook(t *testing.T) {
	b := fullBook(t)
	for _, x := range []struct {
		e    api.Entry
		want api.Errno
	}{
		{api.Entry{}, api.ErrKind},
		{api.Entry{Do: 4, Name: "?", Part: -1, Loss: f(2, 4)}, api.ErrKind},
		{api.Entry{Do: 4, Name: "a", Part: -1, Loss: f(1, 2)}, api.ErrKind},
		{api.Entry{Do: -1, Name: "a", Loss: f(1, 1)}, api.ErrKind},
		{open("?", f(1, 2)), api.ErrForm},
		{open("a", f(2, 4)), api.ErrForm},
		{spend("", f(1, 2)), api.ErrForm},
		{spend("none", f(-1, 2)), api.ErrForm},
		{onPart("A", -1, f(1, 2)), api.ErrForm},
		{onPart("none", -1, f(0, 2)), api.ErrForm},
		{open("a", f(1, 2)), api.ErrRange},
		{spend("none", f(1, 2)), api.ErrRange},
		{onPart("none", -1, f(0, 1)), api.ErrRange},
		{open("a", f(2, 1)), api.ErrMuch},
		{open("new", f(2, 1)), api.ErrMuch},
		{spend("none", f(2, 1)), api.ErrMuch},
		{spend("a", f(2, 1)), api.ErrMuch},
		{onPart("none", -1, f(2, 1)), api.ErrMuch},
		{onPart("a", -1, f(2, 1)), api.ErrMuch},
		{onPart("a", 64, f(2, 1)), api.ErrMuch},
		{onPart("a", 0, f(2, 1)), api.ErrMuch},
	} {
		refused(t, b, x.e, x.want)
	}
}

// TestP2OrderOfThePurse: ErrName, ErrRange, ErrMany, ErrMuch, ErrBudget, each where all behind it would fit as well.
func TestP2OrderOfThePurse(t *testing.T) {
	b := purse.New()
	done(t, b, open("a", f(6, 1)), spend("a", f(3, 1)))
	for k := range api.MaxParts {
		done(t, b, onPart("a", k, f(2, 1)))
	}
	for i := 1; i < api.MaxPurses; i++ {
		done(t, b, open(nth(i), f(1, 1)))
	}
	for _, x := range []struct {
		e    api.Entry
		want api.Errno
	}{
		{open("a", f(2, 1)), api.ErrName},
		{open("new", f(2, 1)), api.ErrMany},
		{spend("none", f(most, 1)), api.ErrName},
		{onPart("none", -1, f(most, 1)), api.ErrName},
		{onPart("none", 64, f(most, 1)), api.ErrName},
		{onPart("a", -1, f(most, 1)), api.ErrRange},
		{onPart("a", api.MaxNum+1, f(most, 1)), api.ErrRange},
		{onPart("a", -1, f(1, 1)), api.ErrRange},
		{onPart("a", 64, f(most, 1)), api.ErrMany},
		{onPart("a", 64, f(1, 1)), api.ErrMany},
		{onPart("a", 63, f(most, 1)), api.ErrMuch},
		{spend("a", f(most, 1)), api.ErrMuch},
		{onPart("a", 63, f(most, most-1)), api.ErrMuch},
		{spend("a", f(most, most-1)), api.ErrMuch},
		{onPart("a", 63, f(2, 1)), api.ErrBudget},
		{spend("a", f(2, 1)), api.ErrBudget},
	} {
		refused(t, b, x.e, x.want)
	}
	done(t, b, onPart("a", 63, f(1, 1)), spend("a", f(1, 1)))
}
