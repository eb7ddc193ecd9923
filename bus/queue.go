package bus

import (
	"bytes"
	"sync"

	"anvil/api"
)

// queue is the console's input, the oldest byte first. The world fills it at one end and the hart empties it at the other, so every call holds the lock.
type queue struct {
	lock    sync.Mutex
	waiting []byte
	lost    bool
}

// join puts bytes behind those that wait, as long as there is room.
func (q *queue) join(p []byte) {
	q.lock.Lock()
	defer q.lock.Unlock()
	room := api.MaxInput - len(q.waiting)
	if len(p) > room {
		p = p[:room]
		q.lost = true
	}
	q.waiting = append(q.waiting, p...)
}

// take is the oldest byte, which leaves; 0, if there is none.
func (q *queue) take() byte {
	q.lock.Lock()
	defer q.lock.Unlock()
	if len(q.waiting) == 0 {
		return 0
	}
	oldest := q.waiting[0]
	// Moving the others up keeps the memory as small as the queue: cutting the first one off would leave it behind.
	q.waiting = append(q.waiting[:0], q.waiting[1:]...)
	return oldest
}

// empty throws away what waits. That a byte was lost is still to be told.
func (q *queue) empty() {
	q.lock.Lock()
	defer q.lock.Unlock()
	q.waiting = nil
}

// waits tells whether there is a byte.
func (q *queue) waits() bool {
	q.lock.Lock()
	defer q.lock.Unlock()
	return len(q.waiting) > 0
}

// tell answers whether bytes wait, and whether one was lost since that was told last.
func (q *queue) tell() (waits, lost bool) {
	q.lock.Lock()
	defer q.lock.Unlock()
	lost = q.lost
	q.lost = false
	return len(q.waiting) > 0, lost
}

// all is what is kept: the bytes, and whether one was lost.
func (q *queue) all() (waiting []byte, lost bool) {
	q.lock.Lock()
	defer q.lock.Unlock()
	return bytes.Clone(q.waiting), q.lost
}
