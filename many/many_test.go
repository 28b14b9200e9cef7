package many_test

import (
	"fmt"
	"math"
	"slices"
	"strings"
	"sync"
	"testing"
	"testing/synctest"

	"marquetry/api"
	"marquetry/desk"
	"marquetry/many"
	"marquetry/plain"
)

// texts are so many sessions, no two of which are answered alike; some are short, some take long.
func texts(n int) []string {
	var l []string
	for i := range n {
		s := fmt.Sprintf("put module a; var x*: int; proc f*(p); begin while p do x := x + 1; p := p - 1; end; return x; end; begin x := %d; write x; end.\nbuild\nload a\n", i)
		s += strings.Repeat(fmt.Sprintf("call a f %d\n", (n-i)*100), i%5)
		l = append(l, s+"sum "+fmt.Sprint(i)+"\nnames\nget a x")
	}
	return l
}

// each are the sessions, one by one.
func each(texts []string) []string {
	l := []string{}
	for _, s := range texts {
		l = append(l, desk.Session(s))
	}
	return l
}

// answered asks for what texts are answered, by so many workers.
func answered(t *testing.T, texts []string, workers int, want []string) {
	t.Helper()
	got, err := many.All(texts, workers)
	if !slices.Equal(got, want) || err != nil {
		t.Errorf("%d texts, %d workers: %.300q, %v; want %.300q", len(texts), workers, got, err, want)
	}
}

// refused asks for ErrLimit, and that nothing is told beside it.
func refused(t *testing.T, texts []string, workers int) {
	t.Helper()
	got, err := many.All(texts, workers)
	if e, place := plain.Place(err); e != api.ErrLimit || place != -1 || got != nil {
		t.Errorf("%d texts, %d workers: %q, %v; want %v", len(texts), workers, got, err, api.ErrLimit)
	}
}

// 12.1: what each is answered, in order, by however many workers.
func TestAll(t *testing.T) {
	for _, n := range []int{0, 1, 2, 3, 15, 16, 17, 49, 50} {
		l := texts(n)
		want := each(l)
		for workers := 1; workers <= 16; workers++ {
			answered(t, l, workers, want)
		}
	}
	answered(t, nil, 1, nil)
	answered(t, nil, 16, nil)
	answered(t, []string{""}, 2, []string{"ok\n"})
	answered(t, []string{"names\nx\n", "", "print", strings.Repeat("x", api.MaxText+1), "\xff\n\n"}, 3, []string{"names\nerror 3\n", "ok\n", "error 8\n", "error 4\n", "error 3\nok\n"})
}

// 12.1: the same text is a session of its own each time.
func TestAlike(t *testing.T) {
	l := slices.Repeat([]string{"names\nput module a; var x: int; proc f*(); begin x := x + 1; return x; end; begin end.\nbuild\nload a\ncall a f"}, 50)
	want := slices.Repeat([]string{"names\nput a\nbuild a\nload 1\ncall 1 1\n"}, 50)
	for _, workers := range []int{1, 2, 7, 16} {
		answered(t, l, workers, want)
	}
}

// 12.1: ErrLimit: more than 50 texts, or workers is not from 1 to 16.
func TestLimits(t *testing.T) {
	for _, workers := range []int{0, -1, 17, 18, 50, math.MaxInt, math.MinInt} {
		for _, n := range []int{0, 1, 50, 51} {
			refused(t, make([]string, n), workers)
		}
	}
	for _, n := range []int{51, 52, 1000} {
		for workers := 1; workers <= 16; workers++ {
			refused(t, make([]string, n), workers)
		}
	}
	oks := slices.Repeat([]string{"ok\n"}, 50)
	answered(t, make([]string, 50), 1, oks)
	answered(t, make([]string, 50), 16, oks)
}

// P4: what is handed in is as it was, also behind its length; what comes out is the caller's.
func TestKeeps(t *testing.T) {
	l := []string{"names", "x", "behind"}
	one, _ := many.All(l[:2], 2)
	two, _ := many.All(l[:2], 2)
	one[0] = ""
	if !slices.Equal(l, []string{"names", "x", "behind"}) || !slices.Equal(two, []string{"names\n", "error 3\n"}) {
		t.Errorf("%q, %q", l, two)
	}
	three, _ := many.All(l[:2], 2)
	if !slices.Equal(three, two) {
		t.Errorf("%q, then %q", two, three)
	}
}

// P1: when it answers, no worker is left, or else this would not end.
func TestNobodyIsLeft(t *testing.T) {
	synctest.Test(t, func(t *testing.T) {
		l := texts(5)
		for _, workers := range []int{0, 1, 3, 16, 17} {
			many.All(l, workers)
			many.All(nil, workers)
			many.All(make([]string, 51), workers)
		}
	})
}

// P4: what is asked at the same time elsewhere makes no difference.
func TestAtOnce(t *testing.T) {
	l := texts(20)
	want := each(l)
	var all sync.WaitGroup
	for workers := 1; workers <= 16; workers++ {
		all.Go(func() { answered(t, l, workers, want) })
	}
	all.Wait()
}
