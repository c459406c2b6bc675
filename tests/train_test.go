package tests

import (
	"math"
	"math/rand"
	"slices"
	"testing"

	"loop.example/heliograph/impl"
)

func wantTrained(t *testing.T, name string, got, want impl.Trained) {
	t.Helper()
	if !sameTrained(got, want) {
		t.Errorf("%s: %+v, want %+v", name, got, want)
	}
}

// took is a train behind a tick in which it took these, the last of which it has.
func took(taken ...impl.Packet) impl.Trained {
	last := taken[len(taken)-1]
	out := impl.Trained{Ok: true, Train: impl.Train{Version: last.Version, Value: last.Value, Stamp: last.Stamp}, Taken: len(taken)}
	for _, p := range taken {
		out.Sent = append(out.Sent, ackOf(p.Version, p.Stamp))
	}
	return out
}

// passed is a train behind a tick in which it took nothing.
func passed(tr impl.Train) impl.Trained {
	return impl.Trained{Ok: true, Train: tr}
}

func TestTrainTakesWhatIsFresh(t *testing.T) {
	tr := impl.Train{Version: 5, Value: 9, Stamp: 17}
	cases := []struct {
		name string
		p    impl.Packet
		take bool
	}{
		{"a greater version and stamp", dataOf(6, -3, 18), true},
		{"a version greater by many", dataOf(impl.MaxVersion, 2, 18), true},
		{"the same version, with its value", dataOf(5, 9, 18), true},
		{"the same version, with another value", dataOf(5, 8, 18), true},
		{"a lesser version", dataOf(4, 8, 18), false},
		{"version 0", dataOf(0, 8, 20), false},
		{"the same stamp", dataOf(6, 8, 17), false},
		{"the same stamp and version", dataOf(5, 9, 17), false},
		{"a lesser stamp", dataOf(6, 8, 16), false},
		{"a lesser stamp and version", dataOf(4, 8, 16), false},
		{"a stamp of now", dataOf(6, 8, 20), true},
		{"the greatest value", dataOf(6, math.MaxInt64, 20), true},
		{"the least value", dataOf(6, math.MinInt64, 20), true},
		{"no value", dataOf(6, 0, 20), true},
		{"an answer", ackOf(6, 18), false},
		{"an answer of the same version", ackOf(5, 20), false},
	}
	for _, c := range cases {
		want := passed(tr)
		if c.take {
			want = took(c.p)
		}
		wantTrained(t, c.name, impl.TrainTick(plainRules, 20, tr, []impl.Packet{c.p}), want)
	}
	wantTrained(t, "nothing", impl.TrainTick(plainRules, 20, tr, nil), passed(tr))
	wantTrained(t, "an empty list", impl.TrainTick(plainRules, 20, tr, []impl.Packet{}), passed(tr))
}

func TestTrainOfAge(t *testing.T) {
	for _, age := range []int{0, 1, 4, 9999, 10000} {
		// Every and Silent are no edge of this.
		r := impl.Rules{Every: 1, Silent: 10000, Age: age}
		for _, now := range []int{20000, impl.MaxTick} {
			for _, old := range []int{age - 1, age, age + 1} {
				if old < 0 {
					continue
				}
				p := dataOf(6, 7, now-old)
				tr := impl.Train{Version: 5, Value: 9, Stamp: now - 15000}
				want := passed(tr)
				if old <= age {
					want = took(p)
				}
				wantTrained(t, "age", impl.TrainTick(r, now, tr, []impl.Packet{p}), want)
			}
		}
	}
	// Silent is longer than Age, and bears no packet that is older than Age.
	r := impl.Rules{Every: 1, Silent: 10, Age: 4}
	tr := impl.Train{Version: 5, Stamp: 1}
	wantTrained(t, "within Silent", impl.TrainTick(r, 20, tr, []impl.Packet{dataOf(6, 7, 15)}), passed(tr))
	// One that is too old leaves room for one that is not.
	wantTrained(t, "old, then fresh", impl.TrainTick(r, 20, tr, []impl.Packet{dataOf(9, 7, 15), dataOf(6, 8, 16)}), took(dataOf(6, 8, 16)))
}

func TestTrainOfSeveral(t *testing.T) {
	tr := impl.Train{Version: 5, Value: 9, Stamp: 14}
	r := impl.Rules{Every: 3, Silent: 10, Age: 5}
	cases := []struct {
		name      string
		in, taken []impl.Packet
	}{
		{"each fresher", []impl.Packet{dataOf(5, 9, 15), dataOf(6, 1, 17), dataOf(6, 1, 18), dataOf(8, 3, 20)}, []impl.Packet{dataOf(5, 9, 15), dataOf(6, 1, 17), dataOf(6, 1, 18), dataOf(8, 3, 20)}},
		{"one twice", []impl.Packet{dataOf(6, 1, 17), dataOf(6, 1, 17)}, []impl.Packet{dataOf(6, 1, 17)}},
		{"two of one stamp", []impl.Packet{dataOf(6, 1, 17), dataOf(7, 2, 17)}, []impl.Packet{dataOf(6, 1, 17)}},
		{"two of one stamp, the other way", []impl.Packet{dataOf(7, 2, 17), dataOf(6, 1, 17)}, []impl.Packet{dataOf(7, 2, 17)}},
		{"the later stamp first", []impl.Packet{dataOf(6, 1, 18), dataOf(7, 2, 17)}, []impl.Packet{dataOf(6, 1, 18)}},
		{"the greater version first", []impl.Packet{dataOf(7, 1, 17), dataOf(6, 2, 18)}, []impl.Packet{dataOf(7, 1, 17)}},
		{"a lesser version between", []impl.Packet{dataOf(6, 1, 15), dataOf(5, 2, 19), dataOf(6, 1, 16)}, []impl.Packet{dataOf(6, 1, 15), dataOf(6, 1, 16)}},
		{"a stamp that was not taken counts for nothing", []impl.Packet{dataOf(4, 1, 20), dataOf(6, 1, 15)}, []impl.Packet{dataOf(6, 1, 15)}},
		{"a version that was not taken counts for nothing", []impl.Packet{dataOf(9, 1, 14), dataOf(6, 1, 15)}, []impl.Packet{dataOf(6, 1, 15)}},
		{"answers between", []impl.Packet{ackOf(9, 20), dataOf(6, 1, 15), ackOf(9, 20), dataOf(7, 1, 16)}, []impl.Packet{dataOf(6, 1, 15), dataOf(7, 1, 16)}},
		{"not taken but for an earlier one", []impl.Packet{dataOf(7, 1, 16), dataOf(5, 9, 15), dataOf(7, 1, 16), dataOf(6, 1, 20), dataOf(7, 4, 19)}, []impl.Packet{dataOf(7, 1, 16), dataOf(7, 4, 19)}},
	}
	for _, c := range cases {
		wantTrained(t, c.name, impl.TrainTick(r, 20, tr, c.in), took(c.taken...))
	}
}

func TestTrainFromNothingOn(t *testing.T) {
	r := impl.Rules{Every: 1, Silent: 1, Age: 0}
	wantTrained(t, "at 0", impl.TrainTick(r, 0, impl.Train{}, nil), passed(impl.Train{}))
	// Sent at 0, as nothing was: that is not greater.
	wantTrained(t, "sent at 0", impl.TrainTick(r, 0, impl.Train{}, []impl.Packet{dataOf(1, 5, 0)}), passed(impl.Train{}))
	wantTrained(t, "version 0", impl.TrainTick(r, 1, impl.Train{}, []impl.Packet{dataOf(0, 0, 1)}), took(dataOf(0, 0, 1)))
	wantTrained(t, "version 1", impl.TrainTick(r, 1, impl.Train{}, []impl.Packet{dataOf(1, 5, 1)}), took(dataOf(1, 5, 1)))
	last := dataOf(impl.MaxVersion, 5, impl.MaxTick)
	wantTrained(t, "the last", impl.TrainTick(r, impl.MaxTick, impl.Train{}, []impl.Packet{last}), took(last))
	has := impl.Train{Version: impl.MaxVersion, Value: 4, Stamp: impl.MaxTick - 1}
	wantTrained(t, "the last of the last version", impl.TrainTick(r, impl.MaxTick, has, []impl.Packet{last}), took(last))
}

func TestTrainOfManyPackets(t *testing.T) {
	r := impl.Rules{Every: 3, Silent: 10000, Age: 5000}
	in := make([]impl.Packet, 1002)
	for i := range in {
		in[i] = dataOf(i+1, int64(-i), i+1)
	}
	for _, n := range []int{999, 1000} {
		wantTrained(t, "packets", impl.TrainTick(r, 2000, impl.Train{}, in[:n]), took(in[:n]...))
	}
	for _, n := range []int{1001, 1002} {
		wantTrained(t, "packets", impl.TrainTick(r, 2000, impl.Train{}, in[:n]), impl.Trained{})
	}
	// What is not taken is counted among them.
	in = slices.Repeat([]impl.Packet{ackOf(1, 6), dataOf(1, 1, 0)}, 501)
	wantTrained(t, "packets not taken", impl.TrainTick(r, 2000, impl.Train{}, in[:1000]), passed(impl.Train{}))
	wantTrained(t, "packets not taken", impl.TrainTick(r, 2000, impl.Train{}, in[:1001]), impl.Trained{})
}

func TestTrainOfRightEdges(t *testing.T) {
	for _, r := range rightRules() {
		for _, c := range rightTrains() {
			p := dataOf(c.train.Version, 8, c.now)
			want := passed(c.train)
			if c.now > c.train.Stamp {
				want = took(p)
			}
			wantTrained(t, "edge", impl.TrainTick(r, c.now, c.train, []impl.Packet{p}), want)
			wantTrained(t, "edge", impl.TrainTick(r, c.now, c.train, nil), passed(c.train))
		}
	}
}

func TestTrainOfWrong(t *testing.T) {
	tr := impl.Train{Version: 2, Value: 9, Stamp: 4}
	in := []impl.Packet{ackOf(4, 9), dataOf(4, 4, 9)}
	if !impl.TrainTick(plainRules, 9, tr, in).Ok {
		t.Fatal("what is right is refused: the test tells nothing")
	}
	for _, r := range wrongRules() {
		wantTrained(t, "rules", impl.TrainTick(r, 9, tr, in), impl.Trained{})
		wantTrained(t, "rules", impl.TrainTick(r, 9, tr, nil), impl.Trained{})
	}
	for _, c := range wrongTrains() {
		wantTrained(t, "train", impl.TrainTick(plainRules, c.now, c.train, []impl.Packet{dataOf(6, 7, max(0, min(c.now, impl.MaxTick)))}), impl.Trained{})
		wantTrained(t, "train", impl.TrainTick(plainRules, c.now, c.train, nil), impl.Trained{})
	}
	for _, coming := range wrongComing(9) {
		wantTrained(t, "packets", impl.TrainTick(plainRules, 9, tr, coming), impl.Trained{})
	}
}

// trainByHand is a tick of the train whose rules, state and packets are right: the best of those that are fresh, step by step.
func trainByHand(r impl.Rules, now int, tr impl.Train, in []impl.Packet) impl.Trained {
	out := impl.Trained{Ok: true, Train: tr}
	for _, p := range in {
		fresh := p.Stamp+r.Age >= now && p.Stamp > out.Train.Stamp
		if p.Kind == 1 && fresh && p.Version >= out.Train.Version {
			out.Train.Version, out.Train.Value, out.Train.Stamp = p.Version, p.Value, p.Stamp
			out.Sent = append(out.Sent, impl.Packet{Kind: 2, Version: p.Version, Stamp: p.Stamp})
			out.Taken++
		}
	}
	return out
}

func TestTrainOfMany(t *testing.T) {
	r := rand.New(rand.NewSource(4))
	several := 0
	for range 20000 {
		silent := 1 + r.Intn(12)
		rules := impl.Rules{Every: 1 + r.Intn(6), Silent: silent, Age: r.Intn(silent + 1)}
		now := r.Intn(30)
		tr := impl.Train{Version: r.Intn(7), Value: int64(r.Intn(9)), Stamp: r.Intn(now + 1)}
		in := somePackets(r, now)
		got, want := impl.TrainTick(rules, now, tr, in), trainByHand(rules, now, tr, in)
		if !sameTrained(got, want) {
			t.Fatalf("%+v at %d %+v, coming %+v: %+v, want %+v", rules, now, tr, in, got, want)
		}
		if want.Taken > 1 {
			several++
		}
	}
	if several < 100 {
		t.Errorf("several were taken only %d times: the test tells little", several)
	}
}

func TestTrainArgumentsAreLeftAlone(t *testing.T) {
	tr := impl.Train{Version: 2, Value: 9, Stamp: 4}
	for _, version := range []int{3, impl.MaxVersion + 1} {
		// Room behind the list: what writes past its end is seen too.
		in := []impl.Packet{dataOf(3, 4, 8), ackOf(4, 9), dataOf(version, 5, 9), ackOf(77, 77), ackOf(78, 78)}
		before := slices.Clone(in)
		first := impl.TrainTick(plainRules, 9, tr, in[:3])
		if !slices.Equal(in, before) {
			t.Errorf("arguments became %+v", in)
		}
		for range 500 {
			wantTrained(t, "again", impl.TrainTick(plainRules, 9, tr, in[:3]), first)
		}
	}
}

func TestTrainAnswersShareNoMemory(t *testing.T) {
	tr := impl.Train{Version: 2, Value: 9, Stamp: 4}
	in := []impl.Packet{dataOf(3, 4, 7), dataOf(3, 4, 8), ackOf(4, 8)}
	before := slices.Clone(in)
	want := took(dataOf(3, 4, 7), dataOf(3, 4, 8))
	one, two := impl.TrainTick(plainRules, 9, tr, in), impl.TrainTick(plainRules, 9, tr, in)
	for i := range one.Sent[:cap(one.Sent)] {
		one.Sent[:cap(one.Sent)][i] = packetOf(9, 9, 9, 9)
	}
	if !slices.Equal(in, before) {
		t.Errorf("what came changed with an answer: %+v", in)
	}
	clear(in)
	wantTrained(t, "the second answer", two, want)
	wantTrained(t, "a third", impl.TrainTick(plainRules, 9, tr, before), want)
}
