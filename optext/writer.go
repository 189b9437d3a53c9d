package optext

import (
	"strings"

	"patchbay/action"
	"patchbay/api"
	"patchbay/entry"
	"patchbay/numtext"
	"patchbay/table"
)

// The range of the IDs that an operation may name.
const (
	firstID = 1
	lastID  = 1 << 30
)

func checkID(id int) api.Errno {
	if id < firstID || id > lastID {
		return api.ErrRange
	}
	return api.OK
}

// checkCall checks a call for a row of table t or as its default action.
func checkCall(p api.Program, t int, c api.ActionCall) api.Errno {
	if !table.Allows(p, t, c.Action) {
		return api.ErrNotFound
	}
	return action.CheckCall(p, c)
}

// check tells what keeps an operation on a valid program from having a text.
func check(p api.Program, o api.TableOp) api.Errno {
	switch {
	case o.Kind < api.OpInsert || o.Kind > api.OpSetDefault:
		return api.ErrKind
	case o.Table < 0 || o.Table >= len(p.Tables):
		return api.ErrNotFound
	case o.Kind == api.OpInsert:
		return entry.Check(p, o.Table, o.Entry)
	case o.Kind == api.OpSetDefault:
		return checkCall(p, o.Table, o.Call)
	}
	if e := checkID(o.ID); e != api.OK || o.Kind == api.OpDelete {
		return e
	}
	return checkCall(p, o.Table, o.Call)
}

func keysText(l []api.KeyMatch) string {
	keys := ""
	for _, m := range l {
		keys += " " + numtext.FormatUint32(m.Value) + "/" + numtext.FormatUint32(m.Mask)
	}
	return keys
}

// callText answers the text of a call with the arrow ahead of it.
func callText(p api.Program, c api.ActionCall) string {
	args := make([]string, len(c.Args))
	for i, v := range c.Args {
		args[i] = numtext.FormatUint32(v)
	}
	return " -> " + p.Actions[c.Action].Name + "(" + strings.Join(args, ", ") + ")"
}

// text answers the text of an operation that check accepts.
func text(p api.Program, o api.TableOp) string {
	name, id := " "+p.Tables[o.Table].Name, " "+numtext.FormatInt(o.ID)
	switch o.Kind {
	case api.OpInsert:
		priority := " " + priorityWord + " " + numtext.FormatInt(o.Entry.Priority)
		return insertWord + name + keysText(o.Entry.Keys) + priority + callText(p, o.Entry.Call)
	case api.OpModify:
		return modifyWord + name + id + callText(p, o.Call)
	case api.OpDelete:
		return deleteWord + name + id
	}
	return defaultWord + name + callText(p, o.Call)
}
