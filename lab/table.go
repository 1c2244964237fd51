package lab

import (
	"slices"

	"tripwire/api"
)

// part reads what stands at one place behind a command's first word.
type part func(r *reader)

// deed does a command, and tells what comes of it.
type deed func(b *bench, s step)

// command is what one first word says: the Op that it asks for, if any; what stands behind it; what is done.
type command struct {
	op    api.Op
	parts []part
	deed  deed
	ahead bool // it may stand ahead of any market
}

// A market has the numbers of a config, and its places.
const (
	configNumbers = 15
	marketNumbers = configNumbers + 1
)

// commands are all, by their first words.
func commands() map[string]command {
	numbers := slices.Repeat([]part{(*reader).number}, marketNumbers)
	entry := []part{(*reader).client, (*reader).kind, (*reader).side, (*reader).entryQty, (*reader).entryPrice}
	change := []part{(*reader).client, (*reader).id, (*reader).qty, (*reader).price}
	own := []part{(*reader).client, (*reader).id}
	return map[string]command{
		"market": {parts: numbers, deed: (*bench).begin, ahead: true},
		"enter":  {op: api.OpEnter, parts: entry, deed: (*bench).enter},
		"amend":  {op: api.OpAmend, parts: change, deed: (*bench).amend},
		"cancel": {op: api.OpCancel, parts: own, deed: (*bench).plain},
		"start":  {op: api.OpStart, parts: own, deed: (*bench).plain},
		"stop":   {op: api.OpStop, parts: own, deed: (*bench).plain},
		"drop":   {op: api.OpDrop, parts: own, deed: (*bench).plain},
		"tick":   {op: api.OpTick, parts: []part{(*reader).time}, deed: (*bench).plain},
		"upload": {op: api.OpUpload, parts: []part{(*reader).client, (*reader).source}, deed: (*bench).plain},
		"book":   {op: api.OpBook, deed: (*bench).book},
		"status": {op: api.OpStatus, parts: []part{(*reader).id}, deed: (*bench).status},
		"quota":  {op: api.OpQuota, parts: []part{(*reader).client}, deed: (*bench).quota},
		"top":    {deed: (*bench).top},
		"torn":   {parts: []part{(*reader).number}, deed: (*bench).torn},
	}
}
