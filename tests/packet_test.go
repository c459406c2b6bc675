package tests

import (
	"bytes"
	"encoding/binary"
	"fmt"
	"hash/fnv"
	"math"
	"math/rand"
	"testing"

	"loop.example/heliograph/impl"
)

// The 18 bytes ahead of the sum, and where each thing lies in them.
const (
	bodySize  = 18
	atKind    = 1
	atVersion = 2
	atValue   = 6
	atStamp   = 14
)

// fixed holds packets of both kinds with their bytes, worked out apart from the program.
var fixed = []struct {
	p    impl.Packet
	text string
}{
	{impl.Packet{Kind: 1, Version: 258, Value: -2, Stamp: 7}, "H\x01\x02\x01\x00\x00\xfe\xff\xff\xff\xff\xff\xff\xff\x07\x00\x00\x00\xf5\x88\x8b\x33\xdd\xca"},
	{impl.Packet{Kind: 1, Version: 0x01020304, Value: 0x1112131415161718, Stamp: 0x0a0b0c0d}, "H\x01\x04\x03\x02\x01\x18\x17\x16\x15\x14\x13\x12\x11\x0d\x0c\x0b\x0a\x1a\x87\x44\xa1\x93\x90"},
	{impl.Packet{Kind: 2, Version: 0x01020304, Stamp: 0x0a0b0c0d}, "H\x02\x04\x03\x02\x01\x00\x00\x00\x00\x00\x00\x00\x00\x0d\x0c\x0b\x0a\x17\xa3\x91\xa8\x05\x53"},
	{impl.Packet{Kind: 1}, "H\x01\x00\x00\x00\x00\x00\x00\x00\x00\x00\x00\x00\x00\x00\x00\x00\x00\x42\xf2\x23\xcf\xfd\x4a"},
	{impl.Packet{Kind: 2}, "H\x02\x00\x00\x00\x00\x00\x00\x00\x00\x00\x00\x00\x00\x00\x00\x00\x00\xcf\xbb\x4b\x62\x05\x07"},
	{impl.Packet{Kind: 1, Version: 1000000000, Value: math.MaxInt64, Stamp: 1000000000}, "H\x01\x00\xca\x9a\x3b\xff\xff\xff\xff\xff\xff\xff\x7f\x00\xca\x9a\x3b\xae\xef\xa7\x10\xf6\xf2"},
	{impl.Packet{Kind: 1, Version: 1000000000, Value: math.MinInt64, Stamp: 1000000000}, "H\x01\x00\xca\x9a\x3b\x00\x00\x00\x00\x00\x00\x00\x80\x00\xca\x9a\x3b\x06\x21\xf2\xa5\x75\xb2"},
}

// wantSum is the sum by another's hand.
func wantSum(b []byte) int64 {
	h := fnv.New64a()
	h.Write(b)
	return int64(h.Sum64())
}

// sealed is a body with its right sum behind it, be the body a packet's or not.
func sealed(body []byte) []byte {
	sum := binary.LittleEndian.AppendUint64(nil, uint64(wantSum(body)))
	return append(bytes.Clone(body), sum[:6]...)
}

// bodyOf is the 18 bytes of a packet, be it one or not.
func bodyOf(kind byte, version uint32, value int64, stamp uint32) []byte {
	b := []byte{'H', kind}
	b = binary.LittleEndian.AppendUint32(b, version)
	b = binary.LittleEndian.AppendUint64(b, uint64(value))
	return binary.LittleEndian.AppendUint32(b, stamp)
}

// edgePackets is every packet whose numbers lie on the edges that the document names.
func edgePackets() []impl.Packet {
	var out []impl.Packet
	for _, version := range []int{0, 1, 255, 256, 65536, 1 << 24, impl.MaxVersion - 1, impl.MaxVersion} {
		for _, stamp := range []int{0, 1, 255, 256, 65536, 1 << 24, impl.MaxTick - 1, impl.MaxTick} {
			out = append(out, impl.Packet{Kind: impl.PAck, Version: version, Stamp: stamp})
			for _, value := range []int64{0, 1, -1, 255, 256, -256, 1 << 32, math.MaxInt64, math.MinInt64} {
				out = append(out, impl.Packet{Kind: impl.PData, Version: version, Value: value, Stamp: stamp})
			}
		}
	}
	return out
}

// noPackets is what is near to a packet and none.
func noPackets() []impl.Packet {
	out := []impl.Packet{{}}
	for _, kind := range []int{0, 3, 4, -1, -2, 255, 256, 257, 258, -255, 1<<32 + 1, math.MaxInt, math.MinInt} {
		out = append(out, impl.Packet{Kind: kind, Version: 5, Stamp: 6})
	}
	past := []int{-1, impl.MaxVersion + 1, math.MaxInt32, 1 << 32, 1<<32 + 5, math.MaxInt, math.MinInt}
	for _, kind := range []int{impl.PData, impl.PAck} {
		for _, n := range past {
			out = append(out, impl.Packet{Kind: kind, Version: n, Stamp: 6}, impl.Packet{Kind: kind, Version: 5, Stamp: n}, impl.Packet{Kind: kind, Version: n, Stamp: n})
		}
	}
	for _, value := range []int64{1, -1, 256, 1 << 32, 1 << 56, math.MaxInt64, math.MinInt64} {
		out = append(out, impl.Packet{Kind: impl.PAck, Version: 5, Value: value, Stamp: 6})
	}
	return out
}

func TestPacketConstants(t *testing.T) {
	got := []int{impl.PData, impl.PAck, impl.PacketSize, impl.MaxVersion, impl.MaxTick}
	want := []int{1, 2, 24, 1000000000, 1000000000}
	if fmt.Sprint(got) != fmt.Sprint(want) {
		t.Errorf("constants %v, want %v", got, want)
	}
}

func TestPacketOkOfPackets(t *testing.T) {
	for _, p := range edgePackets() {
		if !impl.PacketOk(p) {
			t.Errorf("%+v is a packet", p)
		}
	}
}

func TestPacketOkOfNone(t *testing.T) {
	for _, p := range noPackets() {
		if impl.PacketOk(p) {
			t.Errorf("%+v is none", p)
		}
		if b := impl.Encode(p); len(b) != 0 {
			t.Errorf("%+v has bytes %x, want nothing", p, b)
		}
	}
}

func TestSumOfKnown(t *testing.T) {
	cases := []struct {
		text string
		want int64
	}{
		{"", -3750763034362895579},
		{"a", -5808556873153909620},
		{"foobar", -8821353812377114648},
		{"\x00", -5808590958014384161},
		{"\xff", -5808391946409677970},
		{"H\x01", 659556376686318018},
	}
	for _, c := range cases {
		if got := impl.Sum([]byte(c.text)); got != c.want {
			t.Errorf("Sum of %q is %d, want %d", c.text, got, c.want)
		}
	}
	if got := impl.Sum(nil); got != -3750763034362895579 {
		t.Errorf("Sum of nil is %d", got)
	}
}

func TestSumOfMany(t *testing.T) {
	r := rand.New(rand.NewSource(1))
	for n := range 300 {
		b := make([]byte, n)
		r.Read(b)
		if got, want := impl.Sum(b), wantSum(b); got != want {
			t.Errorf("Sum of %x is %d, want %d", b, got, want)
		}
	}
}

func TestBytesOfPackets(t *testing.T) {
	for _, c := range fixed {
		if b := impl.Encode(c.p); string(b) != c.text {
			t.Errorf("bytes of %+v are %x, want %x", c.p, b, c.text)
		}
		if p := impl.Decode([]byte(c.text)); p != c.p {
			t.Errorf("packet of %x is %+v, want %+v", c.text, p, c.p)
		}
	}
}

func TestPacketIsReadBack(t *testing.T) {
	for _, p := range edgePackets() {
		b := impl.Encode(p)
		want := sealed(bodyOf(byte(p.Kind), uint32(p.Version), p.Value, uint32(p.Stamp)))
		if !bytes.Equal(b, want) {
			t.Errorf("bytes of %+v are %x, want %x", p, b, want)
		}
		if got := impl.Decode(b); got != p {
			t.Errorf("%+v is read back as %+v", p, got)
		}
	}
}

func TestSumOfPacketIsItsLowestBytes(t *testing.T) {
	for _, p := range edgePackets() {
		b := impl.Encode(p)
		if len(b) != impl.PacketSize {
			t.Fatalf("%+v has %d bytes", p, len(b))
		}
		sum := impl.Sum(b[:bodySize])
		for i, x := range b[bodySize:] {
			if want := byte(sum >> (8 * i)); x != want {
				t.Errorf("%+v: byte %d of the sum is %x, want %x", p, i, x, want)
			}
		}
	}
}

func TestDecodeOfAnotherLength(t *testing.T) {
	for _, c := range fixed {
		long := append([]byte(c.text), c.text...)
		for n := range len(long) + 1 {
			if n == impl.PacketSize {
				continue
			}
			if p := impl.Decode(long[:n]); p != (impl.Packet{}) {
				t.Errorf("%d bytes are read as %+v", n, p)
			}
		}
		if p := impl.Decode(long[1 : 1+impl.PacketSize]); p != (impl.Packet{}) {
			t.Errorf("bytes out of step are read as %+v", p)
		}
	}
	for _, b := range [][]byte{nil, {}, make([]byte, impl.PacketSize), make([]byte, 100000)} {
		if p := impl.Decode(b); p != (impl.Packet{}) {
			t.Errorf("%d bytes are read as %+v", len(b), p)
		}
	}
}

// Bytes that end in 0 are no packet's without it, though what isn't there might be taken for 0.
func TestDecodeOfPacketCutAtZero(t *testing.T) {
	cut := 0
	for version := range 2000 {
		p := impl.Packet{Kind: impl.PData, Version: version, Value: 9, Stamp: 4}
		b := impl.Encode(p)
		short := bytes.TrimRight(b, "\x00")
		if len(short) == len(b) {
			continue
		}
		cut++
		if got := impl.Decode(short); got != (impl.Packet{}) {
			t.Errorf("%x, cut from %x, is read as %+v", short, b, got)
		}
	}
	if cut == 0 {
		t.Error("no bytes ended in 0: the test tells nothing")
	}
}

// A body or a sum of another size, right in itself, is no packet either.
func TestDecodeOfAnotherLengthWithRightSum(t *testing.T) {
	for n := range 40 {
		body := make([]byte, n)
		copy(body, fixed[0].text[:bodySize])
		if p := impl.Decode(sealed(body)); (p != impl.Packet{}) != (n == bodySize) {
			t.Errorf("a body of %d bytes is read as %+v", n, p)
		}
		whole := binary.LittleEndian.AppendUint64(body, uint64(wantSum(body)))
		if p := impl.Decode(whole); p != (impl.Packet{}) {
			t.Errorf("a body of %d bytes with all 8 of its sum is read as %+v", n, p)
		}
	}
}

func TestDecodeOfWrongFirstByte(t *testing.T) {
	for first := range 256 {
		body := []byte(fixed[0].text[:bodySize])
		body[0] = byte(first)
		if p := impl.Decode(sealed(body)); (p != impl.Packet{}) != (first == 'H') {
			t.Errorf("with the first byte %#x: %+v", first, p)
		}
	}
}

func TestDecodeOfWrongSum(t *testing.T) {
	for _, c := range fixed {
		body := []byte(c.text[:bodySize])
		sum := uint64(wantSum(body))
		for _, other := range []uint64{0, sum + 1, sum - 1, ^sum, sum >> 16, sum >> 8, sum << 8, 1<<64 - 1} {
			b := binary.LittleEndian.AppendUint64(bytes.Clone(body), other)[:impl.PacketSize]
			if p := impl.Decode(b); p != (impl.Packet{}) {
				t.Errorf("%x with a wrong sum is read as %+v", b, p)
			}
		}
		turned := binary.BigEndian.AppendUint64(bytes.Clone(body), sum<<16)[:impl.PacketSize]
		if p := impl.Decode(turned); p != (impl.Packet{}) {
			t.Errorf("%x with its highest byte first is read as %+v", turned, p)
		}
	}
}

func TestDecodeOfNoPacketWithRightSum(t *testing.T) {
	bodies := [][]byte{}
	for kind := range 256 {
		if kind != impl.PData && kind != impl.PAck {
			bodies = append(bodies, bodyOf(byte(kind), 5, 0, 6), bodyOf(byte(kind), 0, 7, 0))
		}
	}
	for _, kind := range []byte{impl.PData, impl.PAck} {
		for _, n := range []uint32{impl.MaxVersion + 1, 1 << 31, math.MaxInt32, math.MaxUint32} {
			bodies = append(bodies, bodyOf(kind, n, 0, 6), bodyOf(kind, 5, 0, n), bodyOf(kind, n, 0, n))
		}
	}
	for _, value := range []int64{1, -1, math.MaxInt64, math.MinInt64} {
		bodies = append(bodies, bodyOf(impl.PAck, 5, value, 6))
	}
	for i := range 64 {
		bodies = append(bodies, bodyOf(impl.PAck, 5, 1<<i, 6))
	}
	for _, body := range bodies {
		if p := impl.Decode(sealed(body)); p != (impl.Packet{}) {
			t.Errorf("%x is read as %+v", body, p)
		}
	}
}

func TestDecodeWithOneByteChanged(t *testing.T) {
	for _, c := range fixed {
		for at := range impl.PacketSize {
			for change := 1; change < 256; change++ {
				b := []byte(c.text)
				b[at] ^= byte(change)
				if p := impl.Decode(b); p != (impl.Packet{}) {
					t.Errorf("%x, changed at %d, is read as %+v", b, at, p)
				}
			}
		}
	}
}

// wantDecoded reads a body with a right sum by hand.
func wantDecoded(body []byte) impl.Packet {
	p := impl.Packet{
		Kind:    int(body[atKind]),
		Version: int(binary.LittleEndian.Uint32(body[atVersion:])),
		Value:   int64(binary.LittleEndian.Uint64(body[atValue:])),
		Stamp:   int(binary.LittleEndian.Uint32(body[atStamp:])),
	}
	right := body[0] == 'H' && p.Version <= 1000000000 && p.Stamp <= 1000000000
	if right && (p.Kind == 1 || p.Kind == 2 && p.Value == 0) {
		return p
	}
	return impl.Packet{}
}

func TestDecodeOfManyBodies(t *testing.T) {
	r := rand.New(rand.NewSource(2))
	read := 0
	for range 20000 {
		body := bodyOf(byte(r.Intn(4)), r.Uint32(), int64(r.Uint64())*int64(r.Intn(2)), r.Uint32())
		b, want := sealed(body), wantDecoded(body)
		if got := impl.Decode(b); got != want {
			t.Fatalf("%x is read as %+v, want %+v", b, got, want)
		}
		if want != (impl.Packet{}) {
			read++
			if again := impl.Encode(want); !bytes.Equal(again, b) {
				t.Fatalf("%+v has bytes %x, want %x", want, again, b)
			}
		}
	}
	if read < 100 {
		t.Errorf("only %d bodies were packets: the test tells little", read)
	}
}

func TestPacketArgumentsAreLeftAlone(t *testing.T) {
	for _, c := range fixed {
		for _, spoil := range []byte{0, 1} {
			// Room behind the bytes: what writes past their end is seen too.
			whole := append([]byte(c.text), "room behind"...)
			whole[20] ^= spoil
			before := bytes.Clone(whole)
			b := whole[:impl.PacketSize]
			first, sum := impl.Decode(b), impl.Sum(b)
			if !bytes.Equal(whole, before) {
				t.Errorf("%x became %x", before, whole)
			}
			if impl.Decode(b) != first || impl.Sum(b) != sum {
				t.Errorf("%x: another answer at the second time", b)
			}
		}
	}
}

func TestPacketAnswersShareNoMemory(t *testing.T) {
	for _, c := range fixed {
		one, two := impl.Encode(c.p), impl.Encode(c.p)
		if len(one) != impl.PacketSize {
			t.Fatalf("%+v has %d bytes", c.p, len(one))
		}
		one = one[:cap(one)]
		for i := range one {
			one[i] = 0xee
		}
		if string(two) != c.text || string(impl.Encode(c.p)) != c.text {
			t.Errorf("bytes of %+v change with those of another answer", c.p)
		}
		p := impl.Decode(two)
		for i := range two {
			two[i] = 0xee
		}
		if p != c.p {
			t.Errorf("%+v changed with the bytes it was read from", c.p)
		}
	}
}
