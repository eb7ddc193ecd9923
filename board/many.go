package board

import (
	"sync"
	"sync/atomic"

	"anvil/api"
)

// players is how many goroutines play at once, at the most.
const players = 8

// session is many decks on their way: all that the players share. Each place of told is written by one player alone, and read only when all of them have ended.
type session struct {
	texts []string
	next  atomic.Int64
	done  chan int
	group sync.WaitGroup
	begin sync.Once
	told  []string
}

// Many plays many decks' texts: the trace's text each, empty where Run has an error.
func Many(texts []string) ([]string, api.Errno) {
	if len(texts) > api.MaxDecks {
		return nil, api.ErrMany
	}
	// There is room for every number, so that no player waits for somebody to take one.
	s := &session{texts: texts, done: make(chan int, len(texts))}
	for range min(players, len(texts)) {
		s.group.Add(1)
		go s.play()
	}
	s.group.Wait()
	close(s.done)
	answer := make([]string, len(texts))
	for place := range s.done {
		answer[place] = s.told[place]
	}
	return answer, api.OK
}

// play plays one deck after the other, till each has its player. A deck's place is sent as soon as its trace stands there.
func (s *session) play() {
	defer s.group.Done()
	s.begin.Do(s.makeRoom)
	for {
		place := int(s.next.Add(1)) - 1
		if place >= len(s.texts) {
			return
		}
		// With an error the text is empty, and that is what is to be told.
		s.told[place], _ = Run(s.texts[place])
		s.done <- place
	}
}

// makeRoom makes a place for each trace. The first player does so.
func (s *session) makeRoom() { s.told = make([]string, len(s.texts)) }
