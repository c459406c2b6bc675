package tests

import (
	"math"
	"runtime"
	"slices"
	"sync"
	"testing"
	"time"

	"loop.example/heliograph/impl"
)

func packetOf(kind, version int, value int64, stamp int) impl.Packet {
	return impl.Packet{Kind: kind, Version: version, Value: value, Stamp: stamp}
}

func dataOf(version int, value int64, stamp int) impl.Packet {
	return packetOf(impl.PData, version, value, stamp)
}

func ackOf(version, stamp int) impl.Packet {
	return packetOf(impl.PAck, version, 0, stamp)
}

// sameBoxed holds answers against each other; an empty list and nil are the same.
func sameBoxed(a, b impl.Boxed) bool {
	return a.Ok == b.Ok && a.Box == b.Box && slices.Equal(a.Sent, b.Sent)
}

func sameTrained(a, b impl.Trained) bool {
	return a.Ok == b.Ok && a.Train == b.Train && a.Taken == b.Taken && slices.Equal(a.Sent, b.Sent)
}

// plainRules are right, and no two of them are the same number.
var plainRules = impl.Rules{Every: 3, Silent: 10, Age: 4}

// wrongRules are each one step, or very far, outside of one limit.
func wrongRules() []impl.Rules {
	out := []impl.Rules{{}}
	for _, n := range []int{0, -1, 1001, math.MaxInt, math.MinInt} {
		out = append(out, impl.Rules{Every: n, Silent: 10, Age: 4})
	}
	for _, n := range []int{10001, math.MaxInt} {
		out = append(out, impl.Rules{Every: 3, Silent: n, Age: 4})
	}
	for _, n := range []int{0, -1, math.MinInt} {
		// Age is no greater than Silent, so that it is Silent alone which is wrong where it can be.
		out = append(out, impl.Rules{Every: 3, Silent: n, Age: min(n, 0)}, impl.Rules{Every: 3, Silent: n, Age: 0})
	}
	for _, n := range []int{-1, 11, math.MaxInt, math.MinInt} {
		out = append(out, impl.Rules{Every: 3, Silent: 10, Age: n})
	}
	return append(out, impl.Rules{Every: 3, Silent: 10000, Age: 10001}, impl.Rules{Every: 3, Silent: 1, Age: 2})
}

// rightRules have every number on an edge, or beside it.
func rightRules() []impl.Rules {
	var out []impl.Rules
	for _, every := range []int{1, 2, 999, 1000} {
		for _, silent := range []int{1, 2, 9999, 10000} {
			for _, age := range []int{0, 1, silent - 1, silent} {
				out = append(out, impl.Rules{Every: every, Silent: silent, Age: age})
			}
		}
	}
	return out
}

type boxAt struct {
	now int
	box impl.Box
}

// rightBoxes have every number on an edge.
func rightBoxes() []boxAt {
	var out []boxAt
	for _, now := range []int{0, 1, 7, impl.MaxTick - 1, impl.MaxTick} {
		for _, version := range []int{0, 1, impl.MaxVersion - 1, impl.MaxVersion} {
			for _, acked := range []int{0, version} {
				for _, sent := range []int{0, now} {
					for _, heard := range []int{0, now} {
						out = append(out, boxAt{now, impl.Box{Version: version, Value: 5, Acked: acked, Sent: sent, Heard: heard}})
					}
				}
			}
		}
	}
	for _, value := range []int64{0, -1, math.MaxInt64, math.MinInt64} {
		out = append(out, boxAt{9, impl.Box{Version: 3, Value: value, Acked: 2, Sent: 4, Heard: 3}})
	}
	return out
}

// wrongBoxes are each outside of one limit.
func wrongBoxes() []boxAt {
	right := impl.Box{Version: 5, Value: 6, Acked: 4, Sent: 7, Heard: 6}
	out := []boxAt{{-1, impl.Box{}}, {math.MinInt, impl.Box{}}, {impl.MaxTick + 1, impl.Box{}}, {math.MaxInt, impl.Box{}}}
	out = append(out, boxAt{-1, impl.Box{Sent: -1, Heard: -1}}, boxAt{impl.MaxTick + 1, impl.Box{Sent: impl.MaxTick + 1, Heard: impl.MaxTick + 1}})
	add := func(change func(b *impl.Box, n int), numbers ...int) {
		for _, n := range numbers {
			b := right
			change(&b, n)
			out = append(out, boxAt{9, b})
		}
	}
	add(func(b *impl.Box, n int) { b.Version, b.Acked = n, 0 }, -1, impl.MaxVersion+1, math.MaxInt, math.MinInt)
	add(func(b *impl.Box, n int) { b.Version, b.Acked = n, n }, -1, impl.MaxVersion+1)
	add(func(b *impl.Box, n int) { b.Acked = n }, -1, 6, impl.MaxVersion, math.MaxInt, math.MinInt)
	add(func(b *impl.Box, n int) { b.Sent = n }, -1, 10, impl.MaxTick, math.MaxInt, math.MinInt)
	add(func(b *impl.Box, n int) { b.Heard = n }, -1, 10, impl.MaxTick, math.MaxInt, math.MinInt)
	return out
}

type trainAt struct {
	now   int
	train impl.Train
}

// rightTrains have every number on an edge.
func rightTrains() []trainAt {
	var out []trainAt
	for _, now := range []int{0, 1, 7, impl.MaxTick - 1, impl.MaxTick} {
		for _, version := range []int{0, 1, impl.MaxVersion - 1, impl.MaxVersion} {
			for _, stamp := range []int{0, now} {
				out = append(out, trainAt{now, impl.Train{Version: version, Value: 5, Stamp: stamp}})
			}
		}
	}
	for _, value := range []int64{0, -1, math.MaxInt64, math.MinInt64} {
		out = append(out, trainAt{9, impl.Train{Version: 3, Value: value, Stamp: 4}})
	}
	return out
}

// wrongTrains are each outside of one limit.
func wrongTrains() []trainAt {
	out := []trainAt{{-1, impl.Train{}}, {math.MinInt, impl.Train{}}, {impl.MaxTick + 1, impl.Train{}}, {math.MaxInt, impl.Train{}}}
	out = append(out, trainAt{-1, impl.Train{Stamp: -1}}, trainAt{impl.MaxTick + 1, impl.Train{Stamp: impl.MaxTick + 1}})
	for _, n := range []int{-1, impl.MaxVersion + 1, math.MaxInt, math.MinInt} {
		out = append(out, trainAt{9, impl.Train{Version: n, Value: 6, Stamp: 7}})
	}
	for _, n := range []int{-1, 10, impl.MaxTick, math.MaxInt, math.MinInt} {
		out = append(out, trainAt{9, impl.Train{Version: 5, Value: 6, Stamp: n}})
	}
	return out
}

func TestRulesOk(t *testing.T) {
	for _, r := range rightRules() {
		if !impl.RulesOk(r) {
			t.Errorf("%+v are right", r)
		}
	}
	for _, r := range wrongRules() {
		if impl.RulesOk(r) {
			t.Errorf("%+v are not right", r)
		}
	}
}

func TestBoxOk(t *testing.T) {
	for _, c := range rightBoxes() {
		if !impl.BoxOk(c.now, c.box) {
			t.Errorf("at %d %+v is right", c.now, c.box)
		}
	}
	for _, c := range wrongBoxes() {
		if impl.BoxOk(c.now, c.box) {
			t.Errorf("at %d %+v is not right", c.now, c.box)
		}
	}
}

func TestTrainOk(t *testing.T) {
	for _, c := range rightTrains() {
		if !impl.TrainOk(c.now, c.train) {
			t.Errorf("at %d %+v is right", c.now, c.train)
		}
	}
	for _, c := range wrongTrains() {
		if impl.TrainOk(c.now, c.train) {
			t.Errorf("at %d %+v is not right", c.now, c.train)
		}
	}
}

func TestSilenceBegins(t *testing.T) {
	for _, silent := range []int{1, 2, 10, 9999, 10000} {
		r := impl.Rules{Every: 1000, Silent: silent, Age: 0}
		for _, last := range []int{0, 1, 50, impl.MaxTick - silent - 1} {
			for since := range 3 {
				now := last + silent - 1 + since
				want := since == 2
				// Sent is now, and the value and the versions are any: only Heard and Stamp count.
				if got := impl.BoxSilent(r, now, impl.Box{Version: 8, Value: -4, Acked: 3, Sent: now, Heard: last}); got != want {
					t.Errorf("silent %d: the box at %d, having heard at %d: %v", silent, now, last, got)
				}
				if got := impl.TrainSilent(r, now, impl.Train{Version: 8, Value: -4, Stamp: last}); got != want {
					t.Errorf("silent %d: the train at %d, with stamp %d: %v", silent, now, last, got)
				}
			}
		}
	}
}

func TestSilenceAtTheEdges(t *testing.T) {
	r := impl.Rules{Every: 1000, Silent: 10000, Age: 10000}
	if !impl.BoxSilent(r, impl.MaxTick, impl.Box{}) || !impl.TrainSilent(r, impl.MaxTick, impl.Train{}) {
		t.Error("after MaxTick ticks nothing is silent")
	}
	if impl.BoxSilent(r, 0, impl.Box{}) || impl.TrainSilent(r, 0, impl.Train{}) {
		t.Error("silent at once")
	}
	if impl.BoxSilent(r, impl.MaxTick, impl.Box{Heard: impl.MaxTick}) || impl.TrainSilent(r, impl.MaxTick, impl.Train{Stamp: impl.MaxTick}) {
		t.Error("silent though just heard")
	}
	// The box heard nothing for long: that it sent, or what was answered, is no sound.
	if !impl.BoxSilent(r, 20000, impl.Box{Version: 4, Acked: 4, Sent: 20000, Heard: 9999}) {
		t.Error("what the box sent is taken for what it heard")
	}
	if impl.BoxSilent(r, 20000, impl.Box{Version: 4, Heard: 20000}) {
		t.Error("a box that did not send is taken for one that did not hear")
	}
}

func TestNothingWrongIsSilent(t *testing.T) {
	for _, r := range wrongRules() {
		if impl.BoxSilent(r, 30000, impl.Box{}) || impl.TrainSilent(r, 30000, impl.Train{}) {
			t.Errorf("silent by %+v", r)
		}
	}
	r := impl.Rules{Every: 1, Silent: 1, Age: 0}
	for _, c := range wrongBoxes() {
		if impl.BoxSilent(r, c.now, c.box) {
			t.Errorf("at %d %+v is silent", c.now, c.box)
		}
	}
	for _, c := range wrongTrains() {
		if impl.TrainSilent(r, c.now, c.train) {
			t.Errorf("at %d %+v is silent", c.now, c.train)
		}
	}
}

func TestMayHave(t *testing.T) {
	top := impl.MaxTick
	cases := []struct {
		r    impl.Rules
		b    impl.Box
		want impl.Has
	}{
		{plainRules, impl.Box{Version: 7, Value: 9, Acked: 5, Sent: 20, Heard: 18}, impl.Has{Low: 5, High: 7, Until: 30}},
		{plainRules, impl.Box{Version: 7, Value: 9, Acked: 7, Sent: 20, Heard: 30}, impl.Has{Low: 7, High: 7, Until: 30}},
		{plainRules, impl.Box{}, impl.Has{Until: 10}},
		{impl.Rules{Every: 1, Silent: 1}, impl.Box{Version: 1}, impl.Has{High: 1, Until: 1}},
		// Right at no tick but the last.
		{plainRules, impl.Box{Version: 7, Acked: 5, Sent: top, Heard: 18}, impl.Has{Low: 5, High: 7, Until: top + 10}},
		{plainRules, impl.Box{Version: 7, Acked: 5, Sent: 18, Heard: top}, impl.Has{Low: 5, High: 7, Until: 28}},
		{impl.Rules{Every: 1000, Silent: 10000, Age: 10000}, impl.Box{Version: impl.MaxVersion, Acked: impl.MaxVersion, Sent: top, Heard: top}, impl.Has{Low: impl.MaxVersion, High: impl.MaxVersion, Until: top + 10000}},
	}
	for _, c := range cases {
		if got := impl.MayHave(c.r, c.b); got != c.want {
			t.Errorf("%+v %+v: %+v, want %+v", c.r, c.b, got, c.want)
		}
	}
}

func TestMayHaveOfWrong(t *testing.T) {
	b := impl.Box{Version: 7, Value: 9, Acked: 5, Sent: 20, Heard: 18}
	for _, r := range wrongRules() {
		if got := impl.MayHave(r, b); got != (impl.Has{}) {
			t.Errorf("%+v: %+v", r, got)
		}
	}
	top := impl.MaxTick
	boxes := []impl.Box{
		{Version: -1}, {Version: -1, Acked: -1}, {Version: impl.MaxVersion + 1}, {Version: math.MaxInt},
		{Version: 7, Acked: -1}, {Version: 7, Acked: 8}, {Acked: 1},
		{Version: 7, Sent: -1}, {Version: 7, Sent: top + 1}, {Version: 7, Sent: math.MaxInt}, {Version: 7, Sent: math.MinInt},
		{Version: 7, Heard: -1}, {Version: 7, Heard: top + 1}, {Version: 7, Heard: math.MaxInt}, {Version: 7, Heard: math.MinInt},
	}
	for _, b := range boxes {
		if got := impl.MayHave(plainRules, b); got != (impl.Has{}) {
			t.Errorf("%+v: %+v", b, got)
		}
	}
}

// wrongComing is packets of which an end can't have a tick now, whatever it is: too many, one that is none, one sent later than now.
func wrongComing(now int) [][]impl.Packet {
	right := []impl.Packet{dataOf(3, 8, now), ackOf(1, now)}
	var out [][]impl.Packet
	for _, kind := range []int{impl.PData, impl.PAck} {
		out = append(out, slices.Repeat([]impl.Packet{packetOf(kind, 1, 0, now)}, 1001))
		late := packetOf(kind, 1, 0, now+1)
		last := packetOf(kind, 1, 0, impl.MaxTick)
		out = append(out, []impl.Packet{late}, []impl.Packet{last}, append(slices.Clone(right), late), append([]impl.Packet{late}, right...))
	}
	for _, none := range noPackets() {
		out = append(out, []impl.Packet{none}, append(slices.Clone(right), none), append([]impl.Packet{none}, right...))
	}
	full := slices.Repeat(right, 500)
	for _, at := range []int{0, 500, 999} {
		spoilt := slices.Clone(full)
		spoilt[at].Kind = 3
		out = append(out, spoilt)
	}
	return append(out, slices.Repeat(right, 600), make([]impl.Packet, 100000))
}

// waitForGoroutines waits until no more than that many are there; one that has ended may be counted a moment longer.
func waitForGoroutines(most int) int {
	for range 200 {
		if n := runtime.NumGoroutine(); n <= most {
			return n
		}
		time.Sleep(5 * time.Millisecond)
	}
	return runtime.NumGoroutine()
}

func TestTicksLeaveNoGoroutine(t *testing.T) {
	before := runtime.NumGoroutine()
	in := []impl.Packet{dataOf(3, 8, 9), ackOf(1, 9), dataOf(4, 8, 9)}
	for range 300 {
		impl.BoxTick(plainRules, 9, impl.Box{Version: 2}, []int64{4}, in)
		impl.BoxTick(impl.Rules{}, 9, impl.Box{Version: 2}, []int64{4}, in)
		impl.BoxTick(plainRules, 9, impl.Box{Version: 2}, nil, []impl.Packet{{}})
		impl.TrainTick(plainRules, 9, impl.Train{Version: 2}, in)
		impl.TrainTick(impl.Rules{}, 9, impl.Train{Version: 2}, in)
		impl.TrainTick(plainRules, 9, impl.Train{Version: 2}, []impl.Packet{{}})
	}
	if after := waitForGoroutines(before); after > before {
		t.Errorf("%d goroutines before, %d after", before, after)
	}
}

func TestTicksAtTheSameTime(t *testing.T) {
	in := []impl.Packet{ackOf(1, 6), dataOf(3, 8, 7), ackOf(2, 5), dataOf(2, 7, 8), dataOf(3, 9, 9)}
	values := []int64{4, 5}
	b, tr := impl.Box{Version: 2, Value: 9, Acked: 0, Sent: 5, Heard: 4}, impl.Train{Version: 2, Value: 9, Stamp: 5}
	boxed := impl.Boxed{Ok: true, Box: impl.Box{Version: 4, Value: 5, Acked: 2, Sent: 9, Heard: 6}, Sent: []impl.Packet{dataOf(4, 5, 9)}}
	trained := impl.Trained{Ok: true, Train: impl.Train{Version: 3, Value: 9, Stamp: 9}, Sent: []impl.Packet{ackOf(3, 7), ackOf(3, 9)}, Taken: 2}
	var all sync.WaitGroup
	for range 16 {
		all.Add(1)
		go func() {
			defer all.Done()
			for range 200 {
				if got := impl.BoxTick(plainRules, 9, b, values, in); !sameBoxed(got, boxed) {
					t.Errorf("%+v, want %+v", got, boxed)
					return
				}
				if got := impl.TrainTick(plainRules, 9, tr, in); !sameTrained(got, trained) {
					t.Errorf("%+v, want %+v", got, trained)
					return
				}
			}
		}()
	}
	all.Wait()
}
