package tests

import (
	"bytes"
	"fmt"
	"reflect"
	"slices"
	"strings"
	"testing"

	"loop.example/easel/impl"
)

// The edge cases of the table of events, one by one.

// played is the state after some events from TenNew on; all that the program says of it is as described.
func played(t *testing.T, c impl.TenCfg, events ...impl.TenEvent) impl.TenState {
	t.Helper()
	want := fresh(c)
	for _, e := range events {
		want = stepped(c, want, e)
	}
	got := impl.TenRun(c, impl.TenNew(c), events)
	wantState(t, events, got, want)
	return got
}

func wantCodes(t *testing.T, s impl.TenState, want ...int) {
	t.Helper()
	if !slices.Equal(codes(s.Outs), want) {
		t.Fatalf("the codes are %v, not %v: %v", codes(s.Outs), want, s)
	}
}

func wantPaths(t *testing.T, s impl.TenState, want string) {
	t.Helper()
	if paths(s.Files) != want {
		t.Fatalf("the files are %q, not %q", paths(s.Files), want)
	}
}

func wantNumbers(t *testing.T, what string, got int, want int) {
	t.Helper()
	if got != want {
		t.Fatalf("%s: %d, not %d", what, got, want)
	}
}

func TestAKnownRun(t *testing.T) {
	c := config(2, 5, 1, 10, 1, 9)
	r := impl.RasRaster{W: 2, H: 1, Pix: []impl.PixPix{{R: 1, A: 255}, {R: 2, A: 255}}}
	back := impl.RasRaster{W: 2, H: 1, Pix: []impl.PixPix{{R: 2, A: 255}, {R: 1, A: 255}}}
	file := impl.FormWrite(impl.FormRuns, []byte("x"), r)
	ask := asked(c, "a", flipX)
	s := impl.TenRun(c, impl.TenNew(c), []impl.TenEvent{passed(3), ask, ask, ask, askedText("/"), askedTill(c, "a", 3)})
	want := impl.TenState{
		Clock: 3, Next: 5, Jobs: []impl.TenJob{{Id: 0, Path: "a", Ops: []impl.OpOp{flipX}, Born: 3}}, Asked: []string{"a"},
		Outs: []impl.TenOut{{Id: 1, Code: 503}, {Id: 2, Code: 429}, {Id: 3, Code: 400}, {Id: 4, Code: 403}},
	}
	wantState(t, "requests", s, want)
	s = impl.TenRun(c, s, []impl.TenEvent{replied(1, file), passed(5), replied(0, file)})
	want.Clock, want.Since, want.Tokens, want.Jobs = 5, 5, 1, nil
	want.Files = []impl.TenFile{{Path: "a", At: 5, Data: file}}
	want.Outs = append(want.Outs, impl.TenOut{Id: 0, Code: 200, Data: impl.FormPut(back)})
	wantState(t, "an original", s, want)
	s = impl.TenRun(c, s, []impl.TenEvent{passed(14), asked(c, "b"), ask, failed(5)})
	want.Clock, want.Since, want.Tokens, want.Next, want.Asked = 14, 10, 0, 7, []string{"a", "b"}
	want.Outs = append(want.Outs, impl.TenOut{Id: 6, Code: 503}, impl.TenOut{Id: 5, Code: 502})
	wantState(t, "a failure", s, want)
}

func TestTheLastToken(t *testing.T) {
	for burst := 1; burst <= 9; burst++ {
		c := config(burst, 5, 4, 10, 3, 9)
		events := []impl.TenEvent{asked(c, "a"), replied(0, fileFor(1))}
		for range burst - 1 {
			events = append(events, asked(c, "a"))
		}
		s := played(t, c, events...)
		wantCodes(t, s, slices.Repeat([]int{200}, burst)...)
		wantNumbers(t, "tokens", s.Tokens, 0)
		s = impl.TenRun(c, s, []impl.TenEvent{asked(c, "a"), askedText("/"), asked(c, "b")})
		wantCodes(t, s, append(slices.Repeat([]int{200}, burst), 429, 400, 429)...)
		wantNumbers(t, "jobs", len(s.Jobs), 0)
		wantNumbers(t, "fetched names", len(s.Asked), 1)
	}
}

func TestTokensInTime(t *testing.T) {
	c := config(3, 5, 4, 999, 3, 999)
	empty := impl.TenRun(c, impl.TenNew(c), []impl.TenEvent{asked(c, "a"), asked(c, "a"), asked(c, "a")})
	for _, k := range []struct {
		times  []int
		tokens int
		since  int
	}{
		{nil, 0, 0}, {[]int{4}, 0, 0}, {[]int{5}, 1, 5}, {[]int{9}, 1, 5}, {[]int{10}, 2, 10}, {[]int{14}, 2, 10}, {[]int{15}, 3, 15}, {[]int{20}, 3, 20}, {[]int{1000}, 3, 1000}, {[]int{9999}, 3, 9995},
		{[]int{4, 5}, 1, 5}, {[]int{4, 8}, 1, 5}, {[]int{4, 8, 12}, 2, 10}, {[]int{1, 2, 3, 4}, 0, 0}, {[]int{6, 9, 10}, 2, 10}, {[]int{4, 9, 14, 19}, 3, 15},
	} {
		s := empty
		for _, at := range k.times {
			s = impl.TenStep(c, s, passed(at))
		}
		wantNumbers(t, fmt.Sprint("tokens at ", k.times), s.Tokens, k.tokens)
		wantNumbers(t, fmt.Sprint("added up to, at ", k.times), s.Since, k.since)
	}
	// Time that passes while all tokens are there is not saved up.
	s := impl.TenRun(c, impl.TenNew(c), []impl.TenEvent{passed(23), asked(c, "a"), passed(24)})
	wantNumbers(t, "tokens at 24", s.Tokens, 2)
	wantNumbers(t, "tokens at 25", impl.TenStep(c, s, passed(25)).Tokens, 3)
	// The tokens of a long time come at once, and only after it.
	old := impl.TenState{Clock: 9000, Tokens: 1}
	wantNumbers(t, "old tokens", impl.TenStep(c, old, passed(9001)).Tokens, 3)
	wantNumbers(t, "old tokens", impl.TenStep(c, old, failed(0)).Tokens, 1)
	wantNumbers(t, "added up to", impl.TenStep(c, old, passed(9004)).Since, 9000)
}

func TestMostJobs(t *testing.T) {
	for most := 1; most <= 4; most++ {
		c := config(9, 5, most, 10, 3, 9)
		var events []impl.TenEvent
		for k := range most {
			events = append(events, asked(c, fmt.Sprint("p", k), turn))
		}
		s := played(t, c, events[:most-1]...)
		wantNumbers(t, "jobs", len(s.Jobs), most-1)
		s = played(t, c, events...)
		wantCodes(t, s)
		wantNumbers(t, "jobs", len(s.Jobs), most)
		wantNumbers(t, "tokens", s.Tokens, 9-most)
		s = impl.TenStep(c, s, asked(c, "more"))
		wantCodes(t, s, 503)
		wantNumbers(t, "jobs", len(s.Jobs), most)
		wantNumbers(t, "tokens", s.Tokens, 8-most)
		wantNumbers(t, "fetched names", len(s.Asked), most)
		for k := range most {
			next := impl.TenRun(c, s, []impl.TenEvent{failed(k), asked(c, "more")})
			wantCodes(t, next, 503, 502)
			wantNumbers(t, "last job", next.Jobs[most-1].Id, most+1)
		}
	}
}

// Too many jobs are reported before a cached file is used, but after a token is taken.
func TestMostJobsAndACachedFile(t *testing.T) {
	c := config(4, 5, 1, 10, 3, 9)
	s := played(t, c, asked(c, "a"), replied(0, fileFor(1)), asked(c, "b"), asked(c, "a"))
	wantCodes(t, s, 200, 503)
	wantNumbers(t, "tokens", s.Tokens, 1)
	s = impl.TenRun(c, s, []impl.TenEvent{asked(c, "a"), asked(c, "a")})
	wantCodes(t, s, 200, 503, 503, 429)
	s = impl.TenRun(c, s, []impl.TenEvent{failed(1), asked(c, "a")})
	wantCodes(t, s, 200, 503, 503, 429, 502, 429)
	s = impl.TenRun(c, s, []impl.TenEvent{passed(5), asked(c, "a")})
	wantCodes(t, s, 200, 503, 503, 429, 502, 429, 200)
}

func TestTheTimeToLive(t *testing.T) {
	for _, ttl := range []int{1, 2, 10, 998, 999} {
		c := config(9, 1, 4, ttl, 3, 999)
		for _, born := range []int{0, 1, 40} {
			start := []impl.TenEvent{asked(c, "a", turn)}
			if born > 0 {
				start = append(start, passed(born))
			}
			start = append(start, replied(0, fileFor(1)))
			for _, age := range []int{0, 1, ttl - 1, ttl} {
				s := played(t, c, append(slices.Clone(start), passed(born+age), asked(c, "a", turn))...)
				wantCodes(t, s, 200, 200)
				wantNumbers(t, "jobs", len(s.Jobs), 0)
				wantNumbers(t, "fetched at", s.Files[0].At, born)
			}
			for _, age := range []int{ttl + 1, ttl + 2, 2*ttl + 1} {
				s := played(t, c, append(slices.Clone(start), passed(born+age), asked(c, "a", turn))...)
				wantCodes(t, s, 200)
				wantNumbers(t, "jobs", len(s.Jobs), 1)
				wantNumbers(t, "files", len(s.Files), 1)
				wantNumbers(t, "fetched names", len(s.Asked), 2)
			}
		}
	}
}

// A request does not make a file younger: its time is that of the fetch.
func TestRequestsDoNotRefresh(t *testing.T) {
	c := config(9, 1, 4, 10, 3, 999)
	s := played(t, c, asked(c, "a"), replied(0, fileFor(1)), passed(6), asked(c, "a"), passed(10), asked(c, "a"), passed(11), asked(c, "a"))
	wantCodes(t, s, 200, 200, 200)
	wantNumbers(t, "jobs", len(s.Jobs), 1)
}

// A file that is too old stays where it is, until it is fetched again or removed.
func TestOldFilesStay(t *testing.T) {
	c := config(9, 1, 4, 10, 3, 999)
	s := played(t, c, asked(c, "a"), asked(c, "b"), replied(0, fileFor(1)), replied(1, fileFor(2)), passed(11), asked(c, "a"))
	wantPaths(t, s, "a b")
	s = impl.TenStep(c, s, replied(2, fileFor(3)))
	wantPaths(t, s, "b a")
	wantNumbers(t, "fetched at", s.Files[1].At, 11)
}

func TestKeptFiles(t *testing.T) {
	names := []string{"a", "b", "c", "d"}
	for keep := 1; keep <= 3; keep++ {
		c := config(9, 1, 4, 999, keep, 999)
		var events []impl.TenEvent
		for k, name := range names {
			events = append(events, asked(c, name), replied(k, fileFor(k)))
			s := played(t, c, events...)
			wantPaths(t, s, strings.Join(names[max(0, k+1-keep):k+1], " "))
		}
	}
	c := config(9, 1, 4, 999, 3, 999)
	s := played(t, c, asked(c, "a"), replied(0, fileFor(0)), asked(c, "b"), replied(1, fileFor(1)), asked(c, "c"), replied(2, fileFor(2)))
	for _, k := range []struct{ use, files, more string }{
		{"a", "b c a", "c a d"}, {"b", "a c b", "c b d"}, {"c", "a b c", "b c d"}, {"ab", "c a b", "a b d"}, {"ba", "c b a", "b a d"}, {"cba", "c b a", "b a d"}, {"aabb", "c a b", "a b d"}, {"acacb", "a c b", "c b d"},
	} {
		used := s
		for _, name := range k.use {
			used = impl.TenRun(c, used, []impl.TenEvent{passed(used.Clock + 1), asked(c, string(name), gray)})
		}
		wantPaths(t, used, k.files)
		used = impl.TenStep(c, used, asked(c, "d"))
		wantPaths(t, used, k.files)
		wantPaths(t, impl.TenStep(c, used, replied(used.Next-1, fileFor(3))), k.more)
	}
}

// The original that comes later replaces the first one, with as many files as before.
func TestAnotherOriginalOfAName(t *testing.T) {
	for keep := 1; keep <= 3; keep++ {
		c := config(9, 1, 4, 999, keep, 999)
		s := played(t, c, asked(c, "a"), asked(c, "a"), asked(c, "b"), replied(2, fileFor(3)), replied(0, fileFor(1)), passed(5), replied(1, fileFor(2)))
		wantCodes(t, s, 200, 200, 200)
		wantPaths(t, s, []string{"a", "b a", "b a"}[keep-1])
		if last := s.Files[len(s.Files)-1]; !sameFile(last, impl.TenFile{Path: "a", At: 5, Data: fileFor(2)}) {
			t.Errorf("%v is cached", last)
		}
	}
	// The other one is the first one, and no other file is removed.
	c := config(9, 1, 4, 999, 3, 999)
	s := played(t, c, asked(c, "a"), asked(c, "a"), asked(c, "b"), asked(c, "c"), replied(0, fileFor(0)), replied(2, fileFor(1)), replied(3, fileFor(2)))
	wantPaths(t, s, "a b c")
	wantPaths(t, impl.TenStep(c, s, replied(1, fileFor(4))), "b c a")
}

func TestTwoJobsOfAName(t *testing.T) {
	c := config(9, 1, 4, 999, 3, 999)
	start := []impl.TenEvent{asked(c, "a", turn), asked(c, "a", flipX)}
	s := played(t, c, start...)
	wantNumbers(t, "jobs", len(s.Jobs), 2)
	wantNumbers(t, "fetched names", len(s.Asked), 2)
	for _, order := range [][2]int{{0, 1}, {1, 0}} {
		s := played(t, c, append(start, replied(order[0], fileFor(1)), replied(order[1], fileFor(2)))...)
		for k, id := range order {
			want, _ := impl.TurnFile(fileFor(k+1), [][]impl.OpOp{{turn}, {flipX}}[id])
			if !sameOut(s.Outs[k], impl.TenOut{Id: id, Code: 200, Data: want}) {
				t.Errorf("the response is %v", s.Outs[k])
			}
		}
		wantPaths(t, s, "a")
		wantPaths(t, played(t, c, append(start, replied(order[0], fileFor(1)), failed(order[1]))...), "a")
		wantPaths(t, played(t, c, append(start, replied(order[0], nil), replied(order[1], fileFor(2)))...), "a")
	}
	// A job that waits already is not answered by a file that is cached meanwhile.
	s = played(t, c, append(start, replied(0, fileFor(1)), asked(c, "a"))...)
	wantCodes(t, s, 200, 200)
	wantNumbers(t, "jobs", len(s.Jobs), 1)
}

func TestWaitingJobs(t *testing.T) {
	for _, wait := range []int{1, 2, 9, 998, 999} {
		c := config(9, 99, 4, 10, 3, wait)
		for _, born := range []int{1, 50} {
			start := []impl.TenEvent{passed(born), asked(c, "a")}
			if wait > 1 {
				s := played(t, c, append(start, passed(born+wait-1))...)
				wantNumbers(t, "jobs", len(s.Jobs), 1)
				wantCodes(t, s)
			}
			for _, more := range []int{0, 1, 1000} {
				s := played(t, c, append(start, passed(born+wait+more), replied(0, fileFor(1)))...)
				wantNumbers(t, "jobs", len(s.Jobs), 0)
				wantCodes(t, s, 504)
				wantPaths(t, s, "")
			}
		}
	}
}

func TestSeveralLateJobs(t *testing.T) {
	c := config(9, 1, 4, 10, 3, 9)
	start := []impl.TenEvent{asked(c, "d"), passed(2), asked(c, "c"), asked(c, "b"), passed(3), asked(c, "a")}
	for _, k := range []struct {
		at   int
		late []int
	}{{8, nil}, {9, []int{0}}, {10, []int{0}}, {11, []int{0, 1, 2}}, {12, []int{0, 1, 2, 3}}, {9999, []int{0, 1, 2, 3}}} {
		s := played(t, c, append(start, passed(k.at))...)
		var ids []int
		for _, out := range s.Outs {
			ids = append(ids, out.Id)
		}
		if !slices.Equal(ids, k.late) || len(s.Jobs) != 4-len(k.late) {
			t.Errorf("at %d, %v are late: %v", k.at, ids, s)
		}
	}
	// Those that do not wait any more are between those that do.
	s := impl.TenState{Clock: 20, Next: 9, Jobs: []impl.TenJob{{Id: 1, Path: "a", Born: 20}, {Id: 3, Path: "b", Born: 5}, {Id: 4, Path: "c", Born: 19}, {Id: 8, Path: "d", Born: 12}}}
	s = impl.TenStep(c, s, passed(21))
	wantCodes(t, s, 504, 504)
	if s.Outs[0].Id != 3 || s.Outs[1].Id != 8 || s.Jobs[0].Id != 1 || s.Jobs[1].Id != 4 {
		t.Errorf("others are late: %v", s)
	}
}

// What is cached is what was fetched, whatever comes of it later.
func TestCachedFilesThatCannotBeTurned(t *testing.T) {
	c := config(9, 1, 4, 10, 3, 9)
	start := []impl.TenEvent{asked(c, "a", turn), asked(c, "b"), replied(0, fileFor(1)), replied(1, fileFor(2))}
	for _, ops := range impossible() {
		s := played(t, c, append(start, asked(c, "a", ops...))...)
		wantCodes(t, s, 200, 200, 422)
		wantPaths(t, s, "b a")
		wantNumbers(t, "jobs", len(s.Jobs), 0)
		wantNumbers(t, "data", len(s.Outs[2].Data), 0)
	}
	s := played(t, c, append(start, asked(c, "a", impossible()[0]...), asked(c, "a"))...)
	wantCodes(t, s, 200, 200, 422, 200)
	if want, _ := impl.TurnFile(fileFor(1), nil); !bytes.Equal(s.Outs[3].Data, want) {
		t.Errorf("the cached file is changed: %v", s)
	}
}

// A file of a valid state need not be readable.
func TestCachedFilesThatCannotBeRead(t *testing.T) {
	c := config(9, 1, 4, 10, 3, 9)
	for _, k := range []struct {
		data []byte
		code int
	}{{nil, 415}, {[]byte("GIF"), 415}, {[]byte{'D'}, 422}, {bytes.Repeat([]byte{'D'}, 220), 422}, {bytes.Repeat([]byte{'x'}, 220), 415}} {
		s := impl.TenState{Tokens: 9, Files: []impl.TenFile{{Path: "a", Data: k.data}, {Path: "b"}}}
		s = impl.TenStep(c, s, asked(c, "a"))
		wantCodes(t, s, k.code)
		wantPaths(t, s, "b a")
		wantNumbers(t, "tokens", s.Tokens, 8)
	}
}

func TestOriginalsThatAreNotCached(t *testing.T) {
	c := config(9, 1, 4, 10, 3, 9)
	cat := fileFor(5)
	for _, k := range []struct {
		data []byte
		ops  []impl.OpOp
		code int
	}{
		{nil, nil, 415}, {[]byte("GIF"), nil, 415}, {sized([]byte("GIF"), 220), nil, 415}, {[]byte{'P'}, nil, 422}, {cat[:len(cat)-1], nil, 422}, {sized(cat, 220), nil, 422},
		{sized(cat, 221), nil, 413}, {sized([]byte("GIF"), 221), nil, 413}, {make([]byte, 100000), nil, 413}, {cat, []impl.OpOp{crop(1, 1, 2, 2)}, 422}, {cat, []impl.OpOp{crop(0, 0, 3, 3), crop(0, 0, 1, 1)}, 422},
	} {
		for _, before := range [][]impl.TenEvent{nil, {asked(c, "a"), replied(0, fileFor(1)), asked(c, "b"), replied(1, fileFor(2)), passed(11)}} {
			s := played(t, c, append(before, asked(c, "a", k.ops...))...)
			after := impl.TenStep(c, s, replied(s.Jobs[0].Id, k.data))
			wantState(t, k, after, stepped(c, s, replied(s.Jobs[0].Id, k.data)))
			if out := after.Outs[len(after.Outs)-1]; !sameOut(out, impl.TenOut{Id: s.Jobs[0].Id, Code: k.code}) || !sameFiles(after.Files, s.Files) || len(after.Jobs) != 0 {
				t.Errorf("after an original of %d bytes: %v", len(k.data), after)
			}
		}
	}
}

func TestTheLastNumbers(t *testing.T) {
	c := config(9, 1, 4, 10, 3, 9)
	s := impl.TenState{Tokens: 9, Next: 9997}
	s = impl.TenStep(c, s, askedText("/"))
	s = impl.TenStep(c, s, asked(c, "a"))
	want := impl.TenState{Tokens: 8, Next: 9999, Asked: []string{"a"}, Jobs: []impl.TenJob{{Id: 9998, Path: "a"}}, Outs: []impl.TenOut{{Id: 9997, Code: 400}}}
	wantState(t, "the last numbers", s, want)
	for _, e := range []impl.TenEvent{asked(c, "b"), asked(c, "a", turn), askedText("/"), askedText(""), askedTill(c, "b", 0)} {
		wantState(t, e, impl.TenStep(c, s, e), want)
	}
	wantCodes(t, impl.TenStep(c, s, replied(9998, fileFor(1))), 400, 200)
	wantCodes(t, impl.TenStep(c, s, passed(9)), 400, 504)
	// There is no number left, although the file is cached.
	s = impl.TenRun(c, s, []impl.TenEvent{replied(9998, fileFor(1)), asked(c, "a")})
	wantCodes(t, s, 400, 200)
}

func TestTheLastTime(t *testing.T) {
	c := config(2, 5, 4, 10, 3, 9)
	s := impl.TenRun(c, impl.TenNew(c), []impl.TenEvent{asked(c, "a"), passed(9998), asked(c, "a")})
	wantCodes(t, s, 504)
	wantNumbers(t, "jobs", len(s.Jobs), 1)
	s = impl.TenStep(c, s, passed(9999))
	wantNumbers(t, "time", s.Clock, 9999)
	wantState(t, "no later time", impl.TenStep(c, s, passed(10000)), s)
	// No expiry time is later than that.
	s = impl.TenStep(c, s, asked(c, "a"))
	wantCodes(t, s, 504, 403)
}

func TestAsManyResponsesAsPossible(t *testing.T) {
	c := config(9, 1, 4, 10, 3, 9)
	for _, n := range []int{58, 59, 60} {
		// n responses are recorded, and there are a job and a cached file.
		start := impl.TenState{Tokens: 5, Next: 7, Jobs: []impl.TenJob{{Id: 3, Path: "b"}, {Id: 4, Path: "b"}}, Files: []impl.TenFile{{Path: "a", Data: fileFor(1)}}, Outs: numberedOuts(n)}
		for _, e := range []impl.TenEvent{askedText("/"), askedTill(c, "a", 0), asked(c, "a"), asked(c, "a", crop(5, 5, 1, 1)), replied(3, fileFor(2)), replied(4, nil), failed(3), passed(9)} {
			s := impl.TenStep(c, start, e)
			wantState(t, e, s, stepped(c, start, e))
			if want := min(60, n+max(1, len(start.Jobs)*(s.Clock/9))); len(s.Outs) != want || !sameOuts(s.Outs[:n], start.Outs) {
				t.Errorf("there are %d responses, not %d, after %v", len(s.Outs), want, e)
			}
			again := impl.TenStep(c, s, askedText("/"))
			wantNumbers(t, "responses", len(again.Outs), min(60, len(s.Outs)+1))
		}
	}
	// Without room for its response, a request has all its other effects.
	s := impl.TenState{Tokens: 5, Next: 7, Outs: numberedOuts(60)}
	s = impl.TenRun(c, s, []impl.TenEvent{asked(c, "a"), replied(7, fileFor(1)), asked(c, "b"), failed(8), askedText("/")})
	want := impl.TenState{Tokens: 3, Next: 10, Asked: []string{"a", "b"}, Files: []impl.TenFile{{Path: "a", Data: fileFor(1)}}, Outs: numberedOuts(60)}
	wantState(t, "no room for responses", s, want)
}

func TestAsManyNamesAsPossible(t *testing.T) {
	c := config(9, 1, 4, 10, 3, 9)
	for _, n := range []int{58, 59, 60} {
		names := slices.Repeat([]string{"a"}, n)
		s := impl.TenState{Tokens: 5, Asked: names}
		for k, name := range []string{"b", "c", "d"} {
			s = impl.TenStep(c, s, asked(c, name))
			wantNumbers(t, "jobs", len(s.Jobs), k+1)
		}
		if want := append(names, "b", "c", "d")[:60]; !slices.Equal(s.Asked, want) {
			t.Errorf("the names are %v, not %v", s.Asked, want)
		}
	}
}

func TestLowestAndHighestConfigurations(t *testing.T) {
	c := lowest()
	s := played(t, c, asked(c, "a"), asked(c, "a"), replied(0, fileFor(1)), asked(c, "a"), passed(1), asked(c, "a"), passed(2), asked(c, "a"), asked(c, "a"), passed(3), asked(c, "b"), failed(6), passed(4), asked(c, "b"), passed(5))
	wantCodes(t, s, 429, 200, 429, 200, 429, 504, 502, 504)
	c = highest()
	var events []impl.TenEvent
	for k := range 9 {
		events = append(events, asked(c, fmt.Sprint("p", k%5), turn))
	}
	s = played(t, c, append(events, asked(c, "a"), passed(98), asked(c, "a"), passed(99), asked(c, "a"), asked(c, "a"), passed(998), failed(0), passed(999))...)
	wantCodes(t, s, 503, 503, 503, 503, 503, 429, 429, 503, 429, 502, 504, 504, 504)
	wantNumbers(t, "tokens", s.Tokens, 9)
	for _, key := range [][]byte{nil, {0}, filled(31, 9), filled(32, 9)} {
		c := withKey(config(2, 5, 1, 10, 1, 9), key)
		wantCodes(t, played(t, c, asked(c, "a"), replied(0, fileFor(1))), 200)
	}
}

// The general rules: arguments are not written to, results are new memory, and nothing is kept.

// memory is where a slice lies, spare capacity included.
type memory struct {
	start uintptr
	end   uintptr
	what  string
}

// memories lists the memory of all slices in a value, also that of what lies in spare capacity.
func memories(v reflect.Value, what string) []memory {
	var list []memory
	switch v.Kind() {
	case reflect.Struct:
		for k := range v.NumField() {
			list = append(list, memories(v.Field(k), what+"."+v.Type().Field(k).Name)...)
		}
	case reflect.Slice:
		if v.Cap() == 0 {
			break
		}
		list = append(list, memory{start: v.Pointer(), end: v.Pointer() + uintptr(v.Cap())*v.Type().Elem().Size(), what: what})
		if v.Type().Elem().Kind() == reflect.Uint8 {
			break
		}
		whole := v.Slice(0, v.Cap())
		for k := range whole.Len() {
			list = append(list, memories(whole.Index(k), fmt.Sprint(what, "[", k, "]"))...)
		}
	}
	return list
}

// wantNew checks that no slice of a result shares memory with another one, or with an argument.
func wantNew(t *testing.T, result any, arguments ...any) {
	t.Helper()
	list := memories(reflect.ValueOf(result), "result")
	own := len(list)
	for _, argument := range arguments {
		list = append(list, memories(reflect.ValueOf(argument), "argument")...)
	}
	for k, one := range list[:own] {
		for _, other := range list[k+1:] {
			if one.start < other.end && other.start < one.end {
				t.Fatalf("%s and %s share memory", one.what, other.what)
			}
		}
	}
}

// roomy returns a state each slice of which has spare capacity.
func roomy(s impl.TenState) impl.TenState {
	s = copied(s)
	for k := range s.Jobs {
		s.Jobs[k].Ops = append(make([]impl.OpOp, 0, 9), s.Jobs[k].Ops...)
	}
	for k := range s.Files {
		s.Files[k].Data = append(make([]byte, 0, 300), s.Files[k].Data...)
	}
	for k := range s.Outs {
		s.Outs[k].Data = append(make([]byte, 0, 300), s.Outs[k].Data...)
	}
	s.Jobs, s.Files = append(make([]impl.TenJob, 0, 9), s.Jobs...), append(make([]impl.TenFile, 0, 9), s.Files...)
	s.Asked, s.Outs = append(make([]string, 0, 99), s.Asked...), append(make([]impl.TenOut, 0, 99), s.Outs...)
	return s
}

// spares are the parts of a roomy state that lie behind its slices.
func spares(s impl.TenState) []any {
	list := []any{s.Jobs[len(s.Jobs):cap(s.Jobs)], s.Files[len(s.Files):cap(s.Files)], s.Asked[len(s.Asked):cap(s.Asked)], s.Outs[len(s.Outs):cap(s.Outs)]}
	for _, job := range s.Jobs {
		list = append(list, job.Ops[len(job.Ops):cap(job.Ops)])
	}
	for _, file := range s.Files {
		list = append(list, file.Data[len(file.Data):cap(file.Data)])
	}
	for _, out := range s.Outs {
		list = append(list, out.Data[len(out.Data):cap(out.Data)])
	}
	return list
}

func wantUntouched(t *testing.T, s impl.TenState, before impl.TenState) {
	t.Helper()
	wantState(t, "an argument", s, before)
	for _, part := range spares(s) {
		if v := reflect.ValueOf(part); !reflect.DeepEqual(part, reflect.MakeSlice(v.Type(), v.Len(), v.Len()).Interface()) {
			t.Fatalf("behind a slice of an argument %v is written", part)
		}
	}
}

func TestTenantsShareNoMemory(t *testing.T) {
	for _, h := range histories() {
		for k := 0; k < len(h.events); k += 9 {
			s, e := roomy(h.states[k]), h.events[k]
			c := withKey(h.c, append(make([]byte, 0, 99), h.c.Key...))
			e.Data = append(make([]byte, 0, len(e.Data)+50), e.Data...)
			data := bytes.Clone(e.Data)
			next := impl.TenStep(c, s, e)
			wantNew(t, next, c, s, e)
			wantUntouched(t, s, h.states[k])
			events := slices.Clone(h.events[k:])
			end := impl.TenRun(c, s, events)
			wantNew(t, end, c, s, events)
			wantNew(t, impl.TenRun(c, s, nil), c, s)
			wantUntouched(t, s, h.states[k])
			if !bytes.Equal(e.Data, data) || !bytes.Equal(c.Key, h.c.Key) || !bytes.Equal(e.Data[len(data):cap(e.Data)], make([]byte, cap(e.Data)-len(data))) {
				t.Fatalf("an argument is written to: %v", e)
			}
		}
	}
}

// An argument may have one slice in several places; the result has it in none.
func TestSharedArgumentsAreSeparated(t *testing.T) {
	c := config(9, 1, 4, 10, 3, 9)
	ops, data := []impl.OpOp{turn, gray}, fileFor(1)
	s := impl.TenState{
		Tokens: 9, Next: 9, Jobs: []impl.TenJob{{Id: 1, Path: "a", Ops: ops}, {Id: 2, Path: "b", Ops: ops[:1]}, {Id: 3, Path: "c", Ops: ops}},
		Files: []impl.TenFile{{Path: "a", Data: data}, {Path: "b", Data: data[:20]}}, Outs: []impl.TenOut{{Code: 200, Data: data}, {Code: 200, Data: data}},
	}
	for _, e := range []impl.TenEvent{{}, asked(c, "a"), asked(c, "c"), replied(1, data), replied(3, data), failed(2), passed(1), passed(99)} {
		next := impl.TenStep(c, s, e)
		wantNew(t, next, s, e)
		wantState(t, e, next, stepped(c, s, e))
	}
	// The same original for two jobs.
	wantNew(t, impl.TenRun(c, s, []impl.TenEvent{replied(1, data), replied(2, data), replied(3, data), asked(c, "a"), asked(c, "a")}), s, replied(1, data))
}

func TestResultsOfTurnFileAreNew(t *testing.T) {
	for _, file := range append(goodFiles(), badFiles()...) {
		roomyFile := append(make([]byte, 0, len(file)+400), file...)
		for _, ops := range opsOfRuns() {
			roomyOps := append(make([]impl.OpOp, 0, 9), ops...)
			data, code := impl.TurnFile(roomyFile, roomyOps)
			wantNew(t, data, roomyFile, roomyOps)
			if !bytes.Equal(roomyFile, file) || !slices.Equal(roomyOps, ops) || !slices.Equal(roomyOps[:9][len(ops):], make([]impl.OpOp, 9-len(ops))) || bytes.Count(roomyFile[len(file):cap(roomyFile)], []byte{0}) != cap(roomyFile)-len(file) {
				t.Fatalf("an argument is written to: %v", ops)
			}
			clear(data[:cap(data)])
			want, how := turned(file, ops)
			if again, code2 := impl.TurnFile(roomyFile, roomyOps); code != how || code2 != how || !bytes.Equal(again, want) {
				t.Fatalf("the second time it is %v, %d", again, code2)
			}
		}
	}
}

// A run is the same each time, also after others.
func TestTenantsKeepNothing(t *testing.T) {
	for _, h := range histories() {
		wantState(t, "again", impl.TenRun(h.c, impl.TenNew(h.c), h.events), h.end())
	}
	c := config(9, 1, 4, 10, 3, 9)
	first := impl.TenRun(c, impl.TenNew(c), []impl.TenEvent{asked(c, "a"), replied(0, fileFor(1))})
	for k := range first.Files {
		clear(first.Files[k].Data[:cap(first.Files[k].Data)])
	}
	clear(first.Outs[:cap(first.Outs)])
	wantCodes(t, played(t, c, asked(c, "a"), replied(0, fileFor(1)), asked(c, "a")), 200, 200)
}
