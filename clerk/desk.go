package clerk

import (
	"slices"

	"swarf/api"
	"swarf/bridge"
)

// desk is the clerk at work: what is kept, and the day. It is a value: what is done returns another one.
type desk struct {
	api.Counter
	day int
}

// opened returns the desk of an office before the first line. It shares no memory with the office.
func opened(o api.Office) desk {
	d := desk{Counter: api.Counter{Log: o.Log, Site: o.Site, Ground: o.Ground, Till: o.Till}, day: o.Day}
	d.Log.Events = slices.Clone(o.Log.Events)
	d.Site.Gates, d.Site.Doings = slices.Clone(o.Site.Gates), slices.Clone(o.Site.Doings)
	d.Ground.Spots, d.Ground.Sorts = slices.Clone(o.Ground.Spots), slices.Clone(o.Ground.Sorts)
	d.Ground.Acts = slices.Clone(o.Ground.Acts)
	d.Till.Links, d.Till.Dues = slices.Clone(o.Till.Links), slices.Clone(o.Till.Dues)
	if count := len(o.Ground.Acts); count > 0 {
		d.Hour = o.Ground.Acts[count-1].Hour
	}
	return d
}

// after returns the desk after a line of a kind with these numbers, and the reply to it. With an error it is as it was.
func (d desk) after(k kind, numbers []int) (desk, any) {
	if k.ask != nil {
		return d, orError(k.ask(d, numbers))
	}
	next, reply, e := k.do(d, numbers)
	if e != api.OK {
		return d, e
	}
	return next, reply
}

// with returns a list with one thing more at its end, which shares no memory with the list.
func with[T any](list []T, more T) []T { return append(slices.Clip(list), more) }

// withEvent returns a desk with an event more, and the reply and the error of that.
func (d desk) withEvent(event api.Event) (desk, any, api.Errno) {
	reply := []any{eventWord, len(d.Log.Events)}
	d.Log.Events = with(d.Log.Events, event)
	return d, reply, errorOf(bridge.Zeros(d.Log))
}

// withDoing returns a desk with a doing more.
func (d desk) withDoing(doing api.Doing) desk {
	d.Site.Doings = with(d.Site.Doings, doing)
	return d
}

// withAct returns a desk with an act of the hour more.
func (d desk) withAct(act api.Act) desk {
	act.Hour = d.Hour
	d.Ground.Acts = with(d.Ground.Acts, act)
	return d
}

// withDue returns a desk with a due of the day more.
func (d desk) withDue(due api.Due) desk {
	due.Day = d.day
	d.Till.Dues = with(d.Till.Dues, due)
	return d
}
