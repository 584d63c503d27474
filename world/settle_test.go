package world

import (
	"fmt"
	"slices"
	"testing"

	"despatch/api"
)

func TestSettle(t *testing.T) { // P23.2: all that waits is posted, carried and fetched, in order
	b := newTwo(t, 4, 3000)
	b.settle(api.Key{1}) // of nothing
	for i := range 12 {
		b.must(api.OK, send(i%4, (i+i/4)%4, "t", fmt.Sprint(i), false, 0))
	}
	b.must(api.OK, post(3))
	b.must(api.OK, carry(0))
	b.must(api.OK, post(2))
	b.settle(api.Key{2})
	// What was in the box ahead, and under way ahead, comes first.
	if got, want := bodies(b.w), "0:0 0:10 0:7 1:4 1:1 1:11 2:2 2:8 2:5 3:3 3:9 3:6 "; got != want {
		t.Errorf("%s\nnot %s", got, want)
	}
	if len(b.w.Under()) != 0 {
		t.Error("not all has arrived")
	}
	ahead := tellWorld(b.w)
	b.settle(api.Key{2})
	if tellWorld(b.w) != ahead {
		t.Error("what has settled changes")
	}
}

func TestSettleFlags(t *testing.T) { // P23.2: what has a flag, whichever, isn't fetched
	for flags := range 16 {
		b := underWay(t, 4)
		for range 4 {
			b.must(api.OK, carry(0))
		}
		b.w.box.Mark("in0", 1, flags)
		b.slow.boxes[0][0].Flags = flags
		b.settle(api.Key{3})
		want := "0:3 1:1 2:2 "
		if flags == 0 {
			want = "0:0 0:3 1:1 2:2 "
		}
		if got := bodies(b.w); got != want {
			t.Errorf("%d: %s", flags, got)
		}
	}
}

func TestSettleSeen(t *testing.T) { // P23.2: what was fetched with an error is seen, and isn't fetched again
	b := underWay(t, 3)
	b.must(api.OK, api.Event{Kind: api.EvCorrupt, N: 1, Turn: 'F'})
	b.must(api.OK, api.Event{Kind: api.EvCarry, N: 2, Stays: true})
	b.settle(api.Key{4})
	if got := bodies(b.w); got != "0:0 2:2 " {
		t.Error(got)
	}
	for n, want := range [][]int{{api.FlagTaken}, {api.FlagSeen}, {api.FlagTaken, api.FlagSeen}} {
		var flags []int
		for _, mail := range b.w.Inbox(n) {
			flags = append(flags, mail.Flags)
		}
		if !slices.Equal(flags, want) {
			t.Errorf("%d: %v, not %v", n, flags, want)
		}
	}
}

func TestSettleKeys(t *testing.T) { // P23.2: the k-th fetch has the seed's k-th key: the own pair's number in the sessions that begin then
	for _, seed := range []api.Key{{}, {1}, {31: 255}, {5, 6, 7}} {
		b := newTwo(t, 4, 3000)
		for n := range 4 {
			for to := range 4 {
				b.must(api.OK, send(n, to, "hello", "hello", false, 0))
			}
		}
		b.settle(api.Key{9, 9})
		// Each agent fetches a mail in the open ahead of those that begin threads.
		for n := range 4 {
			b.must(api.OK, send((n+1)%4, n, "hello", "again", false, 0))
			b.must(api.OK, post((n+1)%4))
			for from := range n {
				b.must(api.OK, send(from, n, fmt.Sprint(from, "-", n), "x", true, byte(10*from+n)))
				b.must(api.OK, post(from))
			}
		}
		b.w.Settle(seed)
		k := uint32(0)
		for n := range 4 {
			k++
			for from := range n {
				session, is := b.w.Agent(n).Session(fmt.Sprint(from, "-", n))
				if !is || session.Own != slowKey(seed, k) {
					t.Errorf("%d from %d: %t, %x, not %x", n, from, is, session.Own, slowKey(seed, k))
				}
				k++
			}
		}
		b.slow.settle(seed)
		b.check("settle")
	}
}

func TestSettleMany(t *testing.T) { // P23.2: more fetches than one byte counts
	b := newTwo(t, 2, 20000)
	b.meet(0, 1)
	for i := range 130 {
		b.w.Do(send(0, 1, "many", fmt.Sprint(i), false, 0))
		b.slow.do(send(0, 1, "many", fmt.Sprint(i), false, 0))
	}
	for i := range 130 {
		b.w.Do(send(1, 0, "own", fmt.Sprint(i), false, 0))
		b.slow.do(send(1, 0, "own", fmt.Sprint(i), false, 0))
	}
	b.must(api.OK, send(0, 1, "t", "the last one", true, 9))
	b.settle(api.Key{1, 2})
	session, is := b.w.Agent(1).Session("t")
	if !is || session.Own != slowKey(api.Key{1, 2}, 260) || len(b.w.Agent(1).Notes()) != 132 {
		t.Errorf("%t, %x, %d notes", is, session.Own, len(b.w.Agent(1).Notes()))
	}
}
