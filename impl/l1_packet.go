package impl

const (
	MaxVersion = 1000000000
	MaxTick    = 1000000000
	PacketSize = 24
)

const (
	PData = iota + 1
	PAck
)

const (
	packetMark = 'H'
	sumSize    = 6

	sumStart  uint64 = 14695981039346656037
	sumFactor uint64 = 1099511628211
)

// Packet is what is sent: data of a version, with its value, or an answer to it; and when it was sent.
type Packet struct {
	Kind    int
	Version int
	Value   int64
	Stamp   int
}

// PacketOk tells whether p is a packet: of a known kind, within the limits, and without a value if it is an answer.
func PacketOk(p Packet) bool {
	if p.Version < 0 || p.Version > MaxVersion || p.Stamp < 0 || p.Stamp > MaxTick {
		return false
	}
	return p.Kind == PData || p.Kind == PAck && p.Value == 0
}

// Sum is the sum of the bytes, its 64 bits as a number with a sign.
func Sum(b []byte) int64 {
	h := sumStart
	for _, x := range b {
		h = (h ^ uint64(x)) * sumFactor
	}
	return int64(h)
}

// cursor is a place in the bytes of one packet. They lie in an array, so a writer's or a reader's are never the caller's.
type cursor struct {
	bytes [PacketSize]byte
	at    int
}

// step moves on by one byte and tells the place that was left.
func (c *cursor) step() int {
	at := c.at
	c.at++
	return at
}

// sum is as much of the sum of the bytes behind the cursor as a packet has room for.
func (c *cursor) sum() uint64 {
	return uint64(Sum(c.bytes[:c.at])) & (1<<(8*sumSize) - 1)
}

type writer struct {
	cursor
}

// put writes the lowest bytes of n, the lowest first.
func (w *writer) put(n uint64, size int) {
	for range size {
		w.bytes[w.step()] = byte(n)
		n >>= 8
	}
}

type reader struct {
	cursor
}

// take reads a number of that many bytes, the lowest first.
func (r *reader) take(size int) uint64 {
	var n uint64
	for i := range size {
		n |= uint64(r.bytes[r.step()]) << (8 * i)
	}
	return n
}

// Encode is the bytes of a packet; nothing for one that is none.
func Encode(p Packet) []byte {
	if !PacketOk(p) {
		return nil
	}
	var w writer
	w.put(packetMark, 1)
	w.put(uint64(p.Kind), 1)
	w.put(uint64(p.Version), 4)
	w.put(uint64(p.Value), 8)
	w.put(uint64(p.Stamp), 4)
	w.put(w.sum(), sumSize)
	return w.bytes[:]
}

// Decode is the packet whose bytes these are; the zero value when there is none.
func Decode(b []byte) Packet {
	if len(b) != PacketSize {
		return Packet{}
	}
	var r reader
	copy(r.bytes[:], b)
	mark := r.take(1)
	var p Packet
	p.Kind = int(r.take(1))
	p.Version = int(r.take(4))
	p.Value = int64(r.take(8))
	p.Stamp = int(r.take(4))
	// The sum is of what was read so far, so it is made ahead of reading the one that came.
	sum := r.sum()
	if mark != packetMark || r.take(sumSize) != sum || !PacketOk(p) {
		return Packet{}
	}
	return p
}
