package tests

import (
	"math"
	"math/rand"
	"slices"
	"testing"

	"loop.example/heliograph/impl"
)

func wantBoxed(t *testing.T, name string, got, want impl.Boxed) {
	t.Helper()
	if !sameBoxed(got, want) {
		t.Errorf("%s: %+v, want %+v", name, got, want)
	}
}

// quiet is a box behind a tick in which it sent nothing.
func quiet(b impl.Box) impl.Boxed {
	return impl.Boxed{Ok: true, Box: b}
}

// said is a box behind a tick in which it sent what stands.
func said(b impl.Box) impl.Boxed {
	return impl.Boxed{Ok: true, Box: b, Sent: []impl.Packet{dataOf(b.Version, b.Value, b.Sent)}}
}

func TestBoxHears(t *testing.T) {
	b := impl.Box{Version: 5, Value: 9, Acked: 2, Sent: 19, Heard: 10}
	heard := func(acked, heard int) impl.Box {
		return impl.Box{Version: 5, Value: 9, Acked: acked, Sent: 19, Heard: heard}
	}
	cases := []struct {
		name string
		in   []impl.Packet
		want impl.Box
	}{
		{"nothing", nil, b},
		{"an empty list", []impl.Packet{}, b},
		{"both greater", []impl.Packet{ackOf(3, 11)}, heard(3, 11)},
		{"only the version greater", []impl.Packet{ackOf(4, 9)}, heard(4, 10)},
		{"only the version greater, the stamp the same", []impl.Packet{ackOf(4, 10)}, heard(4, 10)},
		{"only the stamp greater", []impl.Packet{ackOf(1, 12)}, heard(2, 12)},
		{"only the stamp greater, the version the same", []impl.Packet{ackOf(2, 12)}, heard(2, 12)},
		{"both the same", []impl.Packet{ackOf(2, 10)}, b},
		{"both less", []impl.Packet{ackOf(1, 9)}, b},
		{"zero", []impl.Packet{ackOf(0, 0)}, b},
		{"the box's version", []impl.Packet{ackOf(5, 11)}, heard(5, 11)},
		{"a version above the box's", []impl.Packet{ackOf(6, 11)}, b},
		{"the greatest version", []impl.Packet{ackOf(impl.MaxVersion, 20)}, b},
		{"a stamp of now", []impl.Packet{ackOf(3, 20)}, heard(3, 20)},
		{"data", []impl.Packet{dataOf(5, 9, 20)}, b},
		{"data without a value", []impl.Packet{dataOf(4, 0, 20)}, b},
		{"data of a version above", []impl.Packet{dataOf(8, 1, 20)}, b},
		{"the greater first", []impl.Packet{ackOf(5, 14), ackOf(3, 11)}, heard(5, 14)},
		{"the greater last", []impl.Packet{ackOf(3, 11), ackOf(5, 14)}, heard(5, 14)},
		{"each of one only", []impl.Packet{ackOf(5, 1), ackOf(0, 15), ackOf(4, 13)}, heard(5, 15)},
		{"a version above between", []impl.Packet{ackOf(3, 11), ackOf(6, 20), dataOf(6, 6, 20), ackOf(4, 12)}, heard(4, 12)},
		{"one twice", []impl.Packet{ackOf(3, 11), ackOf(3, 11)}, heard(3, 11)},
	}
	for _, c := range cases {
		wantBoxed(t, c.name, impl.BoxTick(plainRules, 20, b, nil, c.in), quiet(c.want))
	}
}

// An answer that comes in the tick in which a value is set is held against what stood before.
func TestBoxHearsAheadOfSetting(t *testing.T) {
	b := impl.Box{Version: 5, Value: 9, Acked: 2, Sent: 19, Heard: 10}
	set := impl.Box{Version: 6, Value: -1, Acked: 2, Sent: 20, Heard: 10}
	wantBoxed(t, "an answer to what is being set", impl.BoxTick(plainRules, 20, b, []int64{-1}, []impl.Packet{ackOf(6, 20)}), said(set))
	set.Acked, set.Heard = 5, 19
	wantBoxed(t, "an answer to what stood", impl.BoxTick(plainRules, 20, b, []int64{-1}, []impl.Packet{ackOf(5, 19)}), said(set))
	three := impl.Box{Version: 8, Value: 3, Acked: 5, Sent: 20, Heard: 19}
	in := []impl.Packet{ackOf(6, 20), ackOf(7, 20), ackOf(5, 19), ackOf(8, 20)}
	wantBoxed(t, "answers to each of three", impl.BoxTick(plainRules, 20, b, []int64{1, 2, 3}, in), said(three))
	first := impl.BoxTick(plainRules, 1, impl.Box{}, []int64{7}, []impl.Packet{ackOf(1, 1)})
	wantBoxed(t, "an answer to the first", first, said(impl.Box{Version: 1, Value: 7, Sent: 1}))
}

func TestBoxSets(t *testing.T) {
	for _, c := range []struct {
		values []int64
		want   impl.Box
	}{
		{[]int64{4}, impl.Box{Version: 3, Value: 4, Acked: 1, Sent: 6, Heard: 4}},
		{[]int64{4, 5}, impl.Box{Version: 4, Value: 5, Acked: 1, Sent: 6, Heard: 4}},
		{[]int64{5, 4, 3, 2, 1}, impl.Box{Version: 7, Value: 1, Acked: 1, Sent: 6, Heard: 4}},
		{[]int64{9}, impl.Box{Version: 3, Value: 9, Acked: 1, Sent: 6, Heard: 4}},
		{[]int64{9, 9, 9}, impl.Box{Version: 5, Value: 9, Acked: 1, Sent: 6, Heard: 4}},
		{[]int64{0}, impl.Box{Version: 3, Value: 0, Acked: 1, Sent: 6, Heard: 4}},
		{[]int64{1, math.MinInt64}, impl.Box{Version: 4, Value: math.MinInt64, Acked: 1, Sent: 6, Heard: 4}},
		{[]int64{1, math.MaxInt64}, impl.Box{Version: 4, Value: math.MaxInt64, Acked: 1, Sent: 6, Heard: 4}},
	} {
		b := impl.Box{Version: 2, Value: 9, Acked: 1, Sent: 5, Heard: 4}
		// One tick after it sent, and in the very tick in which it did: it sends all the same, and once.
		wantBoxed(t, "set", impl.BoxTick(plainRules, 6, b, c.values, nil), said(c.want))
		b.Sent = 6
		wantBoxed(t, "set in the tick of sending", impl.BoxTick(plainRules, 6, b, c.values, nil), said(c.want))
	}
}

func TestBoxSendsAgain(t *testing.T) {
	for _, every := range []int{1, 2, 3, 999, 1000} {
		r := impl.Rules{Every: every, Silent: 1, Age: 0}
		for _, last := range []int{0, 1, 40, impl.MaxTick - 5000} {
			b := impl.Box{Version: 2, Value: -9, Acked: 1, Sent: last, Heard: last}
			for _, since := range []int{0, every - 1, every, every + 1, 5000} {
				now := last + since
				want := quiet(b)
				if since >= every {
					again := b
					again.Sent = now
					want = said(again)
				}
				wantBoxed(t, "nothing set", impl.BoxTick(r, now, b, nil, nil), want)
				wantBoxed(t, "an empty list set", impl.BoxTick(r, now, b, []int64{}, nil), want)
			}
		}
	}
}

func TestBoxSendsFromNothingOn(t *testing.T) {
	wantBoxed(t, "at 0", impl.BoxTick(plainRules, 0, impl.Box{}, nil, nil), quiet(impl.Box{}))
	wantBoxed(t, "at 0, set", impl.BoxTick(plainRules, 0, impl.Box{}, []int64{6}, nil), said(impl.Box{Version: 1, Value: 6}))
	wantBoxed(t, "at Every", impl.BoxTick(plainRules, 3, impl.Box{}, nil, nil), said(impl.Box{Sent: 3}))
	wantBoxed(t, "at the last", impl.BoxTick(plainRules, impl.MaxTick, impl.Box{}, nil, nil), said(impl.Box{Sent: impl.MaxTick}))
}

// What was heard, or that it is time to send and something was set as well, makes it send no more than once.
func TestBoxSendsOnce(t *testing.T) {
	b := impl.Box{Version: 2, Value: 9, Acked: 1, Sent: 5, Heard: 4}
	wantBoxed(t, "set when it is time", impl.BoxTick(plainRules, 8, b, []int64{7, 6}, nil), said(impl.Box{Version: 4, Value: 6, Acked: 1, Sent: 8, Heard: 4}))
	wantBoxed(t, "heard", impl.BoxTick(plainRules, 7, b, nil, []impl.Packet{ackOf(2, 7)}), quiet(impl.Box{Version: 2, Value: 9, Acked: 2, Sent: 5, Heard: 7}))
	wantBoxed(t, "heard when it is time", impl.BoxTick(plainRules, 8, b, nil, []impl.Packet{ackOf(2, 7)}), said(impl.Box{Version: 2, Value: 9, Acked: 2, Sent: 8, Heard: 7}))
}

func TestBoxOfManyValues(t *testing.T) {
	values := make([]int64, 102)
	for i := range values {
		values[i] = int64(i + 1)
	}
	b := impl.Box{Version: 2, Value: 9, Acked: 1, Sent: 5, Heard: 4}
	for _, n := range []int{99, 100, 101, 102} {
		want := impl.Boxed{}
		if n <= 100 {
			want = said(impl.Box{Version: 2 + n, Value: int64(n), Acked: 1, Sent: 6, Heard: 4})
		}
		wantBoxed(t, "values", impl.BoxTick(plainRules, 6, b, values[:n], nil), want)
	}
}

func TestBoxOfTheLastVersions(t *testing.T) {
	for _, left := range []int{0, 1, 2, 99, 100, 101} {
		version := impl.MaxVersion - left
		b := impl.Box{Version: version, Value: 9, Acked: version, Sent: 5, Heard: 4}
		for _, n := range []int{0, 1, 2, 3, 99, 100, 101} {
			want := impl.Boxed{}
			if n == 0 {
				want = quiet(b)
			} else if n <= left && n <= 100 {
				want = said(impl.Box{Version: version + n, Value: 9, Acked: version, Sent: 6, Heard: 4})
			}
			wantBoxed(t, "values", impl.BoxTick(plainRules, 6, b, slices.Repeat([]int64{9}, n), nil), want)
		}
	}
}

func TestBoxOfManyPackets(t *testing.T) {
	b := impl.Box{Version: 2000, Value: 9, Acked: 1, Sent: 5, Heard: 0}
	in := make([]impl.Packet, 1002)
	for i := range in {
		in[i] = ackOf(i+1, 6)
	}
	for _, n := range []int{999, 1000} {
		wantBoxed(t, "packets", impl.BoxTick(plainRules, 6, b, nil, in[:n]), quiet(impl.Box{Version: 2000, Value: 9, Acked: n, Sent: 5, Heard: 6}))
	}
	for _, n := range []int{1001, 1002} {
		wantBoxed(t, "packets", impl.BoxTick(plainRules, 6, b, nil, in[:n]), impl.Boxed{})
	}
	// What does not count is counted among them.
	in = slices.Repeat([]impl.Packet{dataOf(1, 1, 6), ackOf(3000, 6)}, 501)
	wantBoxed(t, "packets that do not count", impl.BoxTick(plainRules, 6, b, nil, in[:1000]), quiet(b))
	wantBoxed(t, "packets that do not count", impl.BoxTick(plainRules, 6, b, nil, in[:1001]), impl.Boxed{})
}

func TestBoxOfRightEdges(t *testing.T) {
	for _, r := range rightRules() {
		for _, c := range rightBoxes() {
			want := quiet(c.box)
			if c.now-c.box.Sent >= r.Every {
				b := c.box
				b.Sent = c.now
				want = said(b)
			}
			wantBoxed(t, "edge", impl.BoxTick(r, c.now, c.box, nil, nil), want)
		}
	}
}

func TestBoxOfWrong(t *testing.T) {
	b := impl.Box{Version: 5, Value: 9, Acked: 2, Sent: 5, Heard: 4}
	values, in := []int64{3, 4}, []impl.Packet{ackOf(4, 9), dataOf(4, 4, 9)}
	if !impl.BoxTick(plainRules, 9, b, values, in).Ok {
		t.Fatal("what is right is refused: the test tells nothing")
	}
	for _, r := range wrongRules() {
		wantBoxed(t, "rules", impl.BoxTick(r, 9, b, values, in), impl.Boxed{})
		wantBoxed(t, "rules", impl.BoxTick(r, 9, b, nil, nil), impl.Boxed{})
	}
	for _, c := range wrongBoxes() {
		wantBoxed(t, "box", impl.BoxTick(plainRules, c.now, c.box, values, nil), impl.Boxed{})
		wantBoxed(t, "box", impl.BoxTick(plainRules, c.now, c.box, nil, nil), impl.Boxed{})
	}
	for _, coming := range wrongComing(9) {
		wantBoxed(t, "packets", impl.BoxTick(plainRules, 9, b, values, coming), impl.Boxed{})
		wantBoxed(t, "packets", impl.BoxTick(plainRules, 9, b, nil, coming), impl.Boxed{})
	}
	wantBoxed(t, "values", impl.BoxTick(plainRules, 9, b, make([]int64, 101), in), impl.Boxed{})
	wantBoxed(t, "values", impl.BoxTick(plainRules, 9, b, make([]int64, 100000), nil), impl.Boxed{})
}

// boxByHand is a tick of the box whose rules, values and packets are right, told in one go.
func boxByHand(r impl.Rules, now int, b impl.Box, values []int64, in []impl.Packet) impl.Boxed {
	after := b
	for _, p := range in {
		if p.Kind != 2 || p.Version > b.Version {
			continue
		}
		if p.Version > after.Acked {
			after.Acked = p.Version
		}
		if p.Stamp > after.Heard {
			after.Heard = p.Stamp
		}
	}
	if n := len(values); n > 0 {
		after.Version, after.Value = b.Version+n, values[n-1]
	} else if now-b.Sent < r.Every {
		return impl.Boxed{Ok: true, Box: after}
	}
	after.Sent = now
	return impl.Boxed{Ok: true, Box: after, Sent: []impl.Packet{{Kind: 1, Version: after.Version, Value: after.Value, Stamp: now}}}
}

// somePackets is packets that came by now, close to each other.
func somePackets(r *rand.Rand, now int) []impl.Packet {
	in := make([]impl.Packet, r.Intn(8))
	for i := range in {
		stamp := max(0, now-r.Intn(12))
		if r.Intn(2) == 0 {
			in[i] = dataOf(r.Intn(9), int64(r.Intn(9)-4), stamp)
		} else {
			in[i] = ackOf(r.Intn(9), stamp)
		}
	}
	return in
}

func TestBoxOfMany(t *testing.T) {
	r := rand.New(rand.NewSource(3))
	for range 20000 {
		silent := 1 + r.Intn(12)
		rules := impl.Rules{Every: 1 + r.Intn(6), Silent: silent, Age: r.Intn(silent + 1)}
		now, version := r.Intn(30), r.Intn(7)
		b := impl.Box{Version: version, Value: int64(r.Intn(9)), Acked: r.Intn(version + 1), Sent: r.Intn(now + 1), Heard: r.Intn(now + 1)}
		values := make([]int64, max(0, r.Intn(6)-2))
		for i := range values {
			values[i] = int64(r.Intn(100) - 50)
		}
		in := somePackets(r, now)
		got, want := impl.BoxTick(rules, now, b, values, in), boxByHand(rules, now, b, values, in)
		if !sameBoxed(got, want) {
			t.Fatalf("%+v at %d %+v, set %v, coming %+v: %+v, want %+v", rules, now, b, values, in, got, want)
		}
	}
}

func TestBoxArgumentsAreLeftAlone(t *testing.T) {
	b := impl.Box{Version: 5, Value: 9, Acked: 2, Sent: 5, Heard: 4}
	for _, version := range []int{3, impl.MaxVersion + 1} {
		// Room behind the lists: what writes past their end is seen too.
		values := []int64{3, 4, 77, 78}
		in := []impl.Packet{ackOf(4, 8), dataOf(4, 4, 9), ackOf(version, 9), ackOf(77, 77), ackOf(78, 78)}
		valuesBefore, inBefore := slices.Clone(values), slices.Clone(in)
		first := impl.BoxTick(plainRules, 9, b, values[:2], in[:3])
		if !slices.Equal(values, valuesBefore) || !slices.Equal(in, inBefore) {
			t.Errorf("arguments became %v and %+v", values, in)
		}
		for range 500 {
			wantBoxed(t, "again", impl.BoxTick(plainRules, 9, b, values[:2], in[:3]), first)
		}
	}
}

func TestBoxAnswersShareNoMemory(t *testing.T) {
	b := impl.Box{Version: 5, Value: 9, Acked: 2, Sent: 5, Heard: 4}
	values, in := []int64{3, 4}, []impl.Packet{dataOf(7, 4, 9), ackOf(4, 8)}
	want := said(impl.Box{Version: 7, Value: 4, Acked: 4, Sent: 9, Heard: 8})
	one, two := impl.BoxTick(plainRules, 9, b, values, in), impl.BoxTick(plainRules, 9, b, values, in)
	for i := range one.Sent[:cap(one.Sent)] {
		one.Sent[:cap(one.Sent)][i] = packetOf(9, 9, 9, 9)
	}
	if in[0] != dataOf(7, 4, 9) || in[1] != ackOf(4, 8) {
		t.Errorf("what came changed with an answer: %+v", in)
	}
	clear(values)
	clear(in)
	wantBoxed(t, "the second answer", two, want)
	wantBoxed(t, "a third", impl.BoxTick(plainRules, 9, b, []int64{3, 4}, []impl.Packet{ackOf(4, 8)}), want)
}
