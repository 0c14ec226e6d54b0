package lane

import "quern/api"

// Split tells the lanes' bytes.
func Split(k api.Kind, data []byte) ([][]byte, api.Errno) {
	if _, e := Count(k); e != api.OK {
		return nil, e
	}
	return shared{kind: k}.split(data), api.OK
}

func (s shared) split(data []byte) [][]byte {
	lanes := make([][]byte, s.lanes())
	for i := range s.lanes() {
		lanes[i] = make([]byte, 0, s.laneBytes(i, len(data)))
		for at := i * s.blockBytes(); at < len(data); at += s.roundBytes() {
			end := min(at+s.blockBytes(), len(data))
			lanes[i] = append(lanes[i], data[at:end]...)
		}
	}
	return lanes
}

// laneBytes tells how many bytes of a message of total bytes are dealt to lane i.
func (s shared) laneBytes(i, total int) int {
	whole := total / s.roundBytes() * s.blockBytes()
	// What is left of the last round goes to its lanes in order, a block each as far as it reaches.
	rest := total%s.roundBytes() - i*s.blockBytes()
	return whole + max(0, min(rest, s.blockBytes()))
}

// Join tells the message whose lanes these are.
func Join(k api.Kind, lanes [][]byte) ([]byte, api.Errno) {
	if _, e := Count(k); e != api.OK {
		return nil, e
	}
	s := shared{kind: k}
	if !s.dealt(lanes) {
		return nil, api.ErrLanes
	}
	return s.join(lanes), api.OK
}

// dealt tells whether these are the lanes' bytes of some message. Their lengths alone decide it, since any bytes may stand at any place of a message.
func (s shared) dealt(lanes [][]byte) bool {
	if len(lanes) != s.lanes() {
		return false
	}
	total := totalOf(lanes)
	for i := range s.lanes() {
		if len(lanes[i]) != s.laneBytes(i, total) {
			return false
		}
	}
	return true
}

func totalOf(lanes [][]byte) int {
	total := 0
	for _, lane := range lanes {
		total += len(lane)
	}
	return total
}

// join takes lanes that some message was dealt to.
func (s shared) join(lanes [][]byte) []byte {
	data := make([]byte, 0, totalOf(lanes))
	for from := 0; from < len(lanes[0]); from += s.blockBytes() {
		for i := range s.lanes() {
			// In the last round a lane may have nothing any more.
			at := min(from, len(lanes[i]))
			end := min(from+s.blockBytes(), len(lanes[i]))
			data = append(data, lanes[i][at:end]...)
		}
	}
	return data
}
