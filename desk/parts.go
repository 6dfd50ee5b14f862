package desk

import (
	"slices"
	"strings"

	"hushhouse/api"
	"hushhouse/ask"
	"hushhouse/runs"
	"hushhouse/speech"
	"hushhouse/wire"
)

// copied are columns that whoever handed them in can't change.
func copied(l []api.Column) []api.Column {
	out := slices.Clone(l)
	for i, c := range l {
		out[i].Name = strings.Clone(c.Name)
	}
	return out
}

// felt breaks the desk when the power is off.
func (d *Desk) felt(err api.Errno) api.Errno {
	d.broken = err == api.ErrPower
	return err
}

// wrong is what is wrong with a message, whatever was replied so far.
func wrong(m api.Message) api.Errno {
	if m.Kind != api.MessageAsk {
		return api.ErrKind
	}
	if _, err := wire.Pack(m); err != api.OK {
		return err
	}
	if !runs.Name(m.Session) || m.Number < 1 {
		return api.ErrForm
	}
	return api.OK
}

// answer is the reply to a message, packed: the one that was told already, or one that lies on the disk ahead of being told.
func (d *Desk) answer(m api.Message, bits []int) (string, api.Errno) {
	if err := wrong(m); err != api.OK {
		return "", err
	}
	last := d.replies.last[m.Session]
	switch {
	case m.Number == last.number:
		return last.packed, api.OK
	case m.Number < last.number:
		return "", api.ErrNone
	case m.Number > last.number+1:
		return "", api.ErrRange
	case !d.replies.room():
		return "", api.ErrMuch
	}
	told, err := d.ask(m, bits)
	if err == api.ErrPower {
		return "", err
	}
	return d.replies.lay(api.Message{Kind: api.MessageReply, Session: m.Session, Number: m.Number, Err: err, Values: told.Values, Lost: told.Lost})
}

// ask asks the house what a message says. A reply must have room on the disk: so there are not too many places.
func (d *Desk) ask(m api.Message, bits []int) (api.Told, api.Errno) {
	a, fault := speech.Read(m.Text)
	if fault.Err != api.OK {
		return api.Told{}, fault.Err
	}
	bound, err := ask.Type(d.columns, a)
	if err != api.OK {
		return api.Told{}, err
	}
	if bound.Places > api.MaxPlaces {
		return api.Told{}, api.ErrMuch
	}
	return d.house.Ask(api.Question{Purse: m.Purse, Ask: a, R: m.R, Low: m.Low, High: m.High, Bits: bits})
}
