package queue_test

import (
	"math"
	"testing"

	"footlocker/api"
	"footlocker/queue"
)

// made is a queue for so many numbers.
func made(t *testing.T, most int) *queue.Queue {
	t.Helper()
	q, e := queue.New(most)
	if e != api.OK || q == nil {
		t.Fatalf("New(%d): %v, error %d", most, q, e)
	}
	return q
}

// wantCount asks how many wait and how many more there is room for, twice, as to ask changes nothing.
func wantCount(t *testing.T, q *queue.Queue, waiting, room int) {
	t.Helper()
	for range 2 {
		if q.Len() != waiting || q.Room() != room {
			t.Errorf("%d wait, and there is room for %d, not %d and %d", q.Len(), q.Room(), waiting, room)
		}
	}
}

// push puts a number in for which there is room.
func push(t *testing.T, q *queue.Queue, n int) {
	t.Helper()
	if e := q.Push(n); e != api.OK {
		t.Errorf("Push(%d): error %d", n, e)
	}
}

// wantPop asks for the number that is the first.
func wantPop(t *testing.T, q *queue.Queue, n int) {
	t.Helper()
	if got, is := q.Pop(); got != n || !is {
		t.Errorf("Pop: %d, %v, not %d", got, is, n)
	}
}

// wantNone asks a queue in which nothing waits.
func wantNone(t *testing.T, q *queue.Queue) {
	t.Helper()
	if n, is := q.Pop(); n != 0 || is {
		t.Errorf("Pop of nothing: %d, %v", n, is)
	}
}

// fill puts in as many as there is room for, from a number on.
func fill(t *testing.T, q *queue.Queue, from, most int) {
	t.Helper()
	for i := range most {
		wantCount(t, q, i, most-i)
		push(t, q, from+i)
	}
	wantCount(t, q, most, 0)
}

// empty takes out what fill put in.
func empty(t *testing.T, q *queue.Queue, from, most int) {
	t.Helper()
	for i := range most {
		wantCount(t, q, most-i, i)
		wantPop(t, q, from+i)
	}
	wantCount(t, q, 0, most)
}

func TestNewThatMayBe(t *testing.T) {
	for most := 1; most <= api.MostQueue; most++ {
		q := made(t, most)
		wantCount(t, q, 0, most)
		wantNone(t, q)
		fill(t, q, 1, most)
		if e := q.Push(-1); e != api.ErrFull {
			t.Errorf("New(%d): one more than there is room for, error %d", most, e)
		}
		empty(t, q, 1, most)
		wantNone(t, q)
	}
}

func TestNewThatMayNotBe(t *testing.T) {
	for _, most := range []int{math.MinInt, -1 << 32, -api.MostQueue, -2, -1, 0, api.MostQueue + 1, api.MostQueue + 2, 2 * api.MostQueue, 1 << 32, 1<<32 + 1, math.MaxInt} {
		if q, e := queue.New(most); q != nil || e != api.ErrInput {
			t.Errorf("New(%d): %v, error %d", most, q, e)
		}
	}
}

// numbers is some of all kinds: no number is one that says that there is none.
func numbers() []int {
	return []int{0, 7, 7, -1, 1, math.MinInt, math.MaxInt, 0, 0, 1 << 32, -1 << 32, 1<<32 + 1, 7, math.MinInt + 1, math.MaxInt - 1, int(api.ErrFull)}
}

func TestNumbersComeOutAsTheyCameIn(t *testing.T) {
	l := numbers()
	q := made(t, len(l))
	for _, n := range l {
		push(t, q, n)
	}
	for i, n := range l {
		wantCount(t, q, len(l)-i, i)
		wantPop(t, q, n)
	}
	wantNone(t, q)
	wantCount(t, q, 0, len(l))
}

func TestEachNumberAlone(t *testing.T) {
	for _, most := range []int{1, 2, api.MostQueue} {
		q := made(t, most)
		for _, n := range numbers() {
			push(t, q, n)
			wantCount(t, q, 1, most-1)
			wantPop(t, q, n)
			wantCount(t, q, 0, most)
			wantNone(t, q)
		}
	}
}

func TestFilledAndEmptiedOften(t *testing.T) {
	for _, most := range []int{1, 2, 3, 7, api.MostQueue - 1, api.MostQueue} {
		q := made(t, most)
		for round := range 20 {
			from := round*1000 - 5000
			fill(t, q, from, most)
			empty(t, q, from, most)
		}
	}
}

// Numbers go through a queue in which about as many wait all the while, none to all that there is room for.
func TestNumbersGoThrough(t *testing.T) {
	for _, most := range []int{1, 2, 3, 5, 16, api.MostQueue} {
		for _, level := range []int{0, 1, most / 2, most - 1, most} {
			q := made(t, most)
			for i := range level {
				push(t, q, i)
			}
			for i := range 3 * most {
				wantCount(t, q, level, most-level)
				if level < most {
					push(t, q, level+i)
					wantPop(t, q, i)
				} else {
					wantPop(t, q, i)
					push(t, q, level+i)
				}
			}
		}
	}
}

func TestPushWithoutRoom(t *testing.T) {
	for _, most := range []int{1, 2, 5, api.MostQueue} {
		q := made(t, most)
		fill(t, q, 10, most)
		for _, n := range numbers() {
			if e := q.Push(n); e != api.ErrFull {
				t.Errorf("room for %d, Push(%d): error %d", most, n, e)
			}
			wantCount(t, q, most, 0)
		}
		// What was refused is nowhere: the room that a Pop makes is for what comes next.
		wantPop(t, q, 10)
		wantCount(t, q, most-1, 1)
		push(t, q, 10+most)
		if e := q.Push(-3); e != api.ErrFull {
			t.Errorf("room for %d, full again: error %d", most, e)
		}
		empty(t, q, 11, most)
		wantNone(t, q)
	}
}

func TestPopOfNothing(t *testing.T) {
	for _, most := range []int{1, 2, api.MostQueue} {
		q := made(t, most)
		for range 3 {
			wantNone(t, q)
			wantCount(t, q, 0, most)
		}
		push(t, q, 4)
		wantPop(t, q, 4)
		for range 3 {
			wantNone(t, q)
			wantCount(t, q, 0, most)
		}
		// To take nothing leaves no debt: all the room is there, and no more.
		fill(t, q, 1, most)
		if e := q.Push(9); e != api.ErrFull {
			t.Errorf("room for %d: error %d", most, e)
		}
		empty(t, q, 1, most)
	}
}

func TestTheChaptersExample(t *testing.T) {
	q := made(t, 1)
	if a, b := q.Push(3), q.Push(4); a != api.OK || b != api.ErrFull {
		t.Error(a, b)
	}
	wantPop(t, q, 3)
	wantNone(t, q)
}

func TestTwoShareNothing(t *testing.T) {
	one, other := made(t, 2), made(t, 2)
	push(t, one, 1)
	wantCount(t, other, 0, 2)
	wantNone(t, other)
	push(t, other, 5)
	push(t, one, 2)
	if e := one.Push(3); e != api.ErrFull {
		t.Error(e)
	}
	push(t, other, 6)
	wantPop(t, one, 1)
	wantCount(t, other, 2, 0)
	wantPop(t, other, 5)
	wantPop(t, other, 6)
	wantCount(t, one, 1, 1)
	wantPop(t, one, 2)
	wantNone(t, one)
	wantNone(t, other)
}

func TestTwoOfUnlikeRoom(t *testing.T) {
	small, great := made(t, 1), made(t, api.MostQueue)
	fill(t, great, 100, api.MostQueue)
	wantCount(t, small, 0, 1)
	fill(t, small, 1, 1)
	empty(t, great, 100, api.MostQueue)
	wantCount(t, small, 1, 0)
	empty(t, small, 1, 1)
}

func TestNil(t *testing.T) {
	var q *queue.Queue
	for range 3 {
		for _, n := range numbers() {
			if e := q.Push(n); e != api.ErrInput {
				t.Errorf("Push(%d): error %d", n, e)
			}
			wantCount(t, q, 0, 0)
			wantNone(t, q)
		}
	}
}

// A queue that New did not make has no room, and no call of it waits for some.
func TestNotMadeByNew(t *testing.T) {
	q := &queue.Queue{}
	if e := q.Push(1); e != api.ErrFull {
		t.Error(e)
	}
	wantNone(t, q)
	wantCount(t, q, 0, 0)
}
