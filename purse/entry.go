package purse

import (
	"strings"

	"hushhouse/api"
	"hushhouse/ratio"
	"hushhouse/rows"
)

// wrong is what is wrong with an entry, whatever book it comes to.
func wrong(e api.Entry) api.Errno {
	switch {
	case e.Do != api.BookOpen && e.Do != api.BookSpend && e.Do != api.BookPart:
		return api.ErrKind
	case !named(e.Name) || !ratio.Right(e.Loss):
		return api.ErrForm
	case e.Loss.Up < e.Loss.Down:
		return api.ErrRange
	}
	return api.OK
}

// named tells whether a column may have a name: of a column of that name nothing else can be wrong.
func named(name string) bool {
	return rows.Columns([]api.Column{{Name: name, Size: 1}}) == api.OK
}

// written is an entry as it stands in a book: without a Part that says nothing, and with no more than the name of a longer text that the name may be a piece of.
func written(e api.Entry) api.Entry {
	if e.Do != api.BookPart {
		e.Part = 0
	}
	e.Name = strings.Clone(e.Name)
	return e
}

// after is the purse of which an entry speaks, as it is when the entry is done.
func (b *Book) after(e api.Entry) (purse, api.Errno) {
	p, there := b.purses[e.Name]
	switch {
	case there == (e.Do == api.BookOpen): // taken, where one is opened; unknown, where something is spent
		return purse{}, api.ErrName
	case e.Do == api.BookSpend:
		return p.onAll(e.Loss)
	case e.Do == api.BookPart:
		return p.onPart(e.Part, e.Loss)
	case len(b.purses) >= api.MaxPurses:
		return purse{}, api.ErrMany
	}
	return opened(e.Loss), api.OK
}
