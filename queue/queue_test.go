package queue_test

import (
	"math/rand"
	"testing"

	"lodger/queue"
)

func item(n int) queue.Item {
	return queue.Item{Conn: n, Body: "body", Now: uint64(n), Nonce: "n", Drawn: n%2 == 0}
}

func first(t *testing.T, q *queue.Queue, want queue.Item, is bool) {
	t.Helper()
	if x, has := q.First(); x != want || has != is {
		t.Errorf("First: %v, %v, not %v", x, has, want)
	}
}

func take(t *testing.T, q *queue.Queue, want queue.Item, is bool) {
	t.Helper()
	if x, has := q.Take(); x != want || has != is {
		t.Errorf("Take: %v, %v, not %v", x, has, want)
	}
}

func wait(t *testing.T, q *queue.Queue, want int) {
	t.Helper()
	if q.Len() != want {
		t.Errorf("%d wait, not %d", q.Len(), want)
	}
}

func TestExample(t *testing.T) {
	q := queue.New()
	wait(t, q, 0)
	first(t, q, queue.Item{}, false)
	take(t, q, queue.Item{}, false)
	q.Put(item(1))
	q.Put(item(2))
	wait(t, q, 2)
	first(t, q, item(1), true)
	first(t, q, item(1), true)
	take(t, q, item(1), true)
	wait(t, q, 1)
	take(t, q, item(2), true)
	take(t, q, queue.Item{}, false)
	first(t, q, queue.Item{}, false)
	wait(t, q, 0)
	q.Put(item(3))
	first(t, q, item(3), true)
}

func TestNone(t *testing.T) {
	var none *queue.Queue
	none.Put(item(1))
	first(t, none, queue.Item{}, false)
	take(t, none, queue.Item{}, false)
	wait(t, none, 0)
}

// TestZeroItems: one of which all is zero waits like any other.
func TestZeroItems(t *testing.T) {
	q := queue.New()
	q.Put(queue.Item{})
	q.Put(item(1))
	wait(t, q, 2)
	first(t, q, queue.Item{}, true)
	take(t, q, queue.Item{}, true)
	take(t, q, item(1), true)
}

// TestManyAtOnce: they are taken in the order in which they were put, however many wait.
func TestManyAtOnce(t *testing.T) {
	for n := range 100 {
		q := queue.New()
		for range 3 {
			for i := range n {
				q.Put(item(i))
			}
			wait(t, q, n)
			for i := range n {
				take(t, q, item(i), true)
			}
			wait(t, q, 0)
		}
	}
}

func TestEachOnce(t *testing.T) {
	rnd := rand.New(rand.NewSource(1))
	q := queue.New()
	put, taken := 0, 0
	for round := range 30000 {
		if rnd.Intn(100) < 40+20*(round/5000%2) {
			q.Put(item(put))
			put++
		} else if taken < put {
			first(t, q, item(taken), true)
			take(t, q, item(taken), true)
			taken++
		} else {
			take(t, q, queue.Item{}, false)
		}
		wait(t, q, put-taken)
	}
	if taken < 5000 {
		t.Errorf("only %d", taken)
	}
}
