package program_test

import (
	"slices"
	"testing"

	"patchbay/api"
	"patchbay/program"
)

var wrongParts = append([]int{program.PartProgram, program.PartControl, program.PartDeparser, 9}, -7, -1, 1<<32, 1<<32+1, -1<<63, 1<<63-1)

func expectLookup(t *testing.T, p api.Program, part int, name string, index int, ok bool) {
	t.Helper()
	before := text(p)
	if i, found := program.Lookup(p, part, name); i != index || found != ok {
		t.Errorf("Lookup(%d, %q) = %d, %v, want %d, %v", part, name, i, found, index, ok)
	}
	if text(p) != before {
		t.Error("Lookup changes the program")
	}
}

// partNames answers the names of the elements of each part of a program, in the order of the parts from PartHeader on.
func partNames(p api.Program) [6][]string {
	var l [6][]string
	for _, h := range p.Headers {
		l[0] = append(l[0], h.Name)
	}
	for _, f := range p.Metadata {
		l[1] = append(l[1], f.Name)
	}
	for _, r := range p.Registers {
		l[2] = append(l[2], r.Name)
	}
	for _, a := range p.Actions {
		l[3] = append(l[3], a.Name)
	}
	for _, t := range p.Tables {
		l[4] = append(l[4], t.Name)
	}
	for _, s := range p.States {
		l[5] = append(l[5], s.Name)
	}
	return l
}

// P21.3, P21.4: every element of a valid program is found by its name, in its part alone.
func TestLookup(t *testing.T) {
	p := sample()
	all := partNames(p)
	for i, names := range all {
		for j, name := range names {
			expectLookup(t, p, program.PartHeader+i, name, j, true)
		}
		for _, other := range slices.Concat(all[0], all[1], all[2], all[3], all[4], all[5], wrongNames, []string{"H", "h ", "meta", "p"}) {
			if at := slices.Index(names, other); at >= 0 {
				expectLookup(t, p, program.PartHeader+i, other, at, true)
			} else {
				expectLookup(t, p, program.PartHeader+i, other, 0, false)
			}
		}
	}
	for _, part := range wrongParts {
		for _, name := range []string{"h", "p", "", "in", "t", "start", "nop"} {
			expectLookup(t, p, part, name, 0, false)
		}
	}
}

// P21.3: the first of several elements, in programs of any kind and with names of any kind
func TestLookupFirst(t *testing.T) {
	for _, name := range append([]string{"x"}, wrongNames...) {
		p := api.Program{
			Headers:   []api.Header{{Name: "z"}, {Name: name}, {Name: name}},
			Metadata:  []api.Field{{Name: "z"}, {Name: "y"}, {Name: name}, {Name: name}},
			Registers: []api.Register{{Name: name}, {Name: name}, {Name: "z"}},
			Actions:   slices.Repeat([]api.Action{{Name: "z"}}, 100),
			Tables:    []api.Table{{Name: "z"}, {Name: name}, {Name: "z"}, {Name: name}},
			States:    []api.ParserState{{Name: name, Default: -9}},
		}
		p.Actions[98].Name, p.Actions[99].Name = name, name
		for part, at := range map[int]int{program.PartHeader: 1, program.PartMetadata: 2, program.PartRegister: 0, program.PartAction: 98, program.PartTable: 1, program.PartParser: 0} {
			expectLookup(t, p, part, name, at, true)
			expectLookup(t, api.Program{}, part, name, 0, false)
			if part != program.PartParser {
				expectLookup(t, p, part, "z", slices.Index(partNames(p)[part-program.PartHeader], "z"), true)
			}
		}
		expectLookup(t, p, program.PartParser, "z", 0, false)
	}
}

// P21.3: an element behind the length of a list isn't found.
func TestLookupBehindLength(t *testing.T) {
	p := sample()
	p.Headers, p.Metadata, p.Registers, p.Actions, p.Tables, p.States = p.Headers[:1], p.Metadata[:3], p.Registers[:1], p.Actions[:1], p.Tables[:1], p.States[:1]
	for part, name := range map[int]string{program.PartHeader: "g", program.PartMetadata: "count", program.PartRegister: "h", program.PartAction: "set", program.PartTable: "u", program.PartParser: "more"} {
		expectLookup(t, p, part, name, 0, false)
		expectLookup(t, sample(), part, name, slices.Index(partNames(sample())[part-program.PartHeader], name), true)
	}
}
