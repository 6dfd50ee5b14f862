package crowd

import (
	"slices"

	"hushhouse/api"
	"hushhouse/dist"
	"hushhouse/noise"
	"hushhouse/ratio"
)

// wrong is what is wrong with a crowd.
func wrong(r api.Ratio, kinds int, truths []int) api.Errno {
	switch {
	case kinds < 1 || kinds > api.MaxPick:
		return api.ErrRange
	case len(truths) > api.MaxCrowd:
		return api.ErrMany
	}
	if _, err := noise.Respond(r, kinds, 0); err != api.OK {
		return err
	}
	for _, truth := range truths {
		if _, err := noise.Respond(r, kinds, truth); err != api.OK {
			return err
		}
	}
	_, err := ratio.Power(api.Ratio{Up: spread(r, kinds), Down: 1}, len(truths))
	return err
}

// spread is all weights together of what one person may say.
func spread(r api.Ratio, kinds int) int { return r.Up + (kinds-1)*r.Down }

// joined is how many say each kind, when to those who were heard one comes who says something by itself.
func joined(heard, said api.Dist) (api.Dist, api.Errno) {
	var parts []api.Part
	for _, so := range heard {
		for _, kind := range said {
			out := slices.Clone(so.Out)
			out[kind.Out[0]]++
			parts = append(parts, api.Part{Out: out, Weight: so.Weight * kind.Weight})
		}
	}
	return dist.Make(parts)
}

// together is all that was heard.
func together(heard []int) (int, api.Errno) {
	all := 0
	for _, number := range heard {
		if number < 0 || number > api.MaxRows {
			return 0, api.ErrFit
		}
		all += number
	}
	return all, api.OK
}
