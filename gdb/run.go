package gdb

import "anvil/api"

// The signals that a computer with the power on is told to have stopped by.
const (
	trapped     = "S05"
	interrupted = "S02"
	exited      = "W"
)

// state is the answer to ?, and to whatever has stopped by nothing else.
func (s *Stub) state() string {
	now := s.board.Whole().Bus
	switch now.Off {
	case api.Passed:
		return exited + digitsOf([]byte{0})
	case api.Failed:
		return exited + digitsOf([]byte{byte(now.Code)})
	}
	return trapped
}

// isOff tells whether the power is off.
func (s *Stub) isOff() bool { return s.board.Whole().Bus.Off != api.Running }

// resume does s and c: with the power off nothing, else from an address on, if one is told.
func (s *Stub) resume(address string, run func() string) string {
	at, is := numberOf(address)
	switch {
	case address != "" && !is:
		return badForm
	case s.isOff():
		return s.state()
	case is:
		cpu := s.board.Whole().Cpu
		cpu.Pc = at
		s.board.Set(cpu)
	}
	return run()
}

// one is a single step.
func (s *Stub) one() string {
	s.step()
	return s.state()
}

// many is steps until something stops them.
func (s *Stub) many() string {
	for range api.MaxRun {
		if answer, is := s.stopped(s.step()); is {
			return answer
		}
	}
	return interrupted
}

// step lets the board make a step, with the deck's next world as long as there is one.
func (s *Stub) step() api.Row {
	var world api.World
	if s.steps < len(s.worlds) {
		world = s.worlds[s.steps]
	}
	s.steps++
	return s.board.Step(world)
}

// stopped is what ends a run behind a step; false: nothing does.
func (s *Stub) stopped(row api.Row) (string, bool) {
	if s.turnedOff(row) {
		return s.state(), true
	}
	for _, one := range s.stops {
		if one.watches(row) {
			return one.name(), true
		}
	}
	return trapped, s.breaks(row)
}

// turnedOff tells whether a step has used the power switch. The whole, a copy of all RAM, is asked for just where that can be.
func (s *Stub) turnedOff(row api.Row) bool {
	return row.Mem&api.W != 0 && row.Addr == api.FinisherBase && s.isOff()
}

// breaks tells whether the hart stands at a breakpoint behind a step, and does not wait there.
func (s *Stub) breaks(row api.Row) bool {
	for _, one := range s.stops {
		if one.kind < onStore && one.at == row.Next {
			return row.Kind != api.RowWait && !s.board.Whole().Cpu.Waiting
		}
	}
	return false
}
