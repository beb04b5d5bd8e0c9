package log

import "tollhouse/api"

// step is something that the disk does or refuses.
type step = func() api.Errno

// inTurn does the steps one behind the other, up to the first one that is refused.
func inTurn(steps ...step) api.Errno {
	for _, do := range steps {
		if e := do(); e != api.OK {
			return e
		}
	}
	return api.OK
}

// withoutNew is what is to be done for nothing to be left of a Rewrite that was cut off.
func (l *Log) withoutNew() []step {
	if _, e := l.disk.Read(l.newName()); e != api.OK {
		return nil
	}
	return []step{func() api.Errno { return l.disk.Remove(l.newName()) }}
}

// mend takes away what a crash left, of a file of so many bytes.
func (l *Log) mend(bytes int) api.Errno {
	steps := l.withoutNew()
	if bytes > l.size {
		steps = append(steps, func() api.Errno { return l.disk.Truncate(l.name, l.size) })
	}
	if len(steps) > 0 {
		steps = append(steps, l.disk.Sync)
	}
	return inTurn(steps...)
}
