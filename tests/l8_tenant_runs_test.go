package tests

import (
	"bytes"
	"fmt"
	"math"
	"math/rand/v2"
	"slices"
	"strings"
	"sync"
	"testing"

	"loop.example/easel/impl"
)

// Configurations, files and events.

func config(burst int, every int, most int, ttl int, keep int, wait int) impl.TenCfg {
	return impl.TenCfg{Key: []byte("key"), Burst: burst, Every: every, Most: most, Ttl: ttl, Keep: keep, Wait: wait}
}

// withKey returns a configuration with another key.
func withKey(c impl.TenCfg, key []byte) impl.TenCfg {
	c.Key = key
	return c
}

// lowest and highest have the lowest, and the highest, value of each number, and a key of no bytes, and of 32.
func lowest() impl.TenCfg {
	return withKey(config(1, 1, 1, 1, 1, 1), nil)
}

func highest() impl.TenCfg {
	return withKey(config(9, 99, 4, 999, 3, 999), filled(32, 5))
}

// configs are valid; in most of them little time makes a difference.
func configs() []impl.TenCfg {
	return []impl.TenCfg{
		lowest(), highest(), config(2, 5, 1, 10, 1, 9), config(9, 1, 4, 6, 3, 8), config(5, 2, 2, 12, 2, 5), config(9, 1, 3, 999, 2, 3), config(3, 3, 4, 1, 3, 20),
		config(9, 2, 4, 30, 1, 30), withKey(config(4, 1, 2, 20, 3, 12), filled(32, 1)), withKey(config(1, 4, 4, 50, 3, 40), nil), config(9, 99, 4, 40, 3, 999),
	}
}

// numberOf points to one of the numbers of a configuration; numberMost are the highest values.
func numberOf(c *impl.TenCfg, which int) *int {
	return []*int{&c.Burst, &c.Every, &c.Most, &c.Ttl, &c.Keep, &c.Wait}[which]
}

var numberMost = []int{9, 99, 4, 999, 3, 999}

// invalidConfigs have one thing wrong each, or all.
func invalidConfigs() []impl.TenCfg {
	list := []impl.TenCfg{{}, config(0, 0, 0, 0, 0, 0), withKey(config(0, 0, 0, 0, 0, 0), filled(33, 1))}
	for _, c := range configs() {
		for _, n := range []int{33, 34, 64, 256, 257, 500, 501, 100000} {
			list = append(list, withKey(c, filled(n, 1)))
		}
		for which, most := range numberMost {
			for _, value := range []int{0, -1, -2, most + 1, most + 2, math.MinInt, math.MaxInt, 1 << 32, 1<<32 + 1, -1 << 32, most + 1<<32, 65537} {
				wrong := c
				*numberOf(&wrong, which) = value
				list = append(list, wrong)
			}
		}
	}
	return list
}

// goodFiles are readable: each kind, with and without notes, and the smallest and the largest raster.
func goodFiles() [][]byte {
	var list [][]byte
	for k, r := range someRasters() {
		for n, kind := range kinds {
			list = append(list, fileOf(kind, filled((4*k+n)%10, k), bodyOf(kind, r)))
		}
	}
	return list
}

// badFiles are too long, of no known kind, or broken.
func badFiles() [][]byte {
	good := fileOf('D', nil, bodyOf('D', raster(2, 2, 3)))
	wrong := bytes.Clone(good)
	wrong[4] ^= 1
	return [][]byte{nil, {}, []byte("GIF"), {0}, {'D'}, {'P', 0}, wrong, good[:len(good)-1], append(bytes.Clone(good), 0), fileOf('Q', nil, bodyOf('D', raster(1, 1, 1))), fileOf('D', filled(10, 1), bodyOf('D', raster(1, 1, 1))), sized(good, 220), sized(good, 221), sized([]byte("GIF"), 220), sized([]byte("GIF"), 221), make([]byte, 221), sized(good, 1000)}
}

// sized returns a file with bytes behind it, n in all.
func sized(file []byte, n int) []byte {
	return append(bytes.Clone(file), make([]byte, n-len(file))...)
}

// fileFor is a readable file of a raster of two by two pixels.
func fileFor(seed int) []byte {
	return fileOf('D', []byte("n"), bodyOf('D', raster(2, 2, seed)))
}

func asked(c impl.TenCfg, path string, ops ...impl.OpOp) impl.TenEvent {
	return askedTill(c, path, 9999, ops...)
}

func askedTill(c impl.TenCfg, path string, till int, ops ...impl.OpOp) impl.TenEvent {
	return impl.TenEvent{Kind: impl.EvAsk, Text: signed(c.Key, askWritten(request(path, till, ops...)))}
}

func askedText(text string) impl.TenEvent {
	return impl.TenEvent{Kind: impl.EvAsk, Text: text}
}

func replied(id int, file []byte) impl.TenEvent {
	return impl.TenEvent{Kind: impl.EvReply, Id: id, Data: file}
}

func failed(id int) impl.TenEvent {
	return impl.TenEvent{Kind: impl.EvFail, Id: id}
}

func passed(at int) impl.TenEvent {
	return impl.TenEvent{Kind: impl.EvTime, At: at}
}

// The chapter once more, for comparison.

// turned is the result of TurnFile as the chapter describes it.
func turned(file []byte, ops []impl.OpOp) ([]byte, int) {
	if len(file) > 220 {
		return nil, 413
	}
	if len(ops) > 5 || slices.ContainsFunc(ops, func(o impl.OpOp) bool { return !impl.OpOk(o) }) {
		return nil, 422
	}
	r, how := impl.FormGet(file)
	if how != impl.FormGood {
		return nil, map[int]int{impl.FormWhat: 415, impl.FormBroken: 422}[how]
	}
	for _, o := range ops {
		next, possible := rasterDone(r, o)
		if !possible {
			return nil, 422
		}
		r = next
	}
	return fileOf('P', nil, bodyOf('P', r)), 200
}

// stepped is a valid state after an event, as the table of the chapter describes it.
func stepped(c impl.TenCfg, s impl.TenState, e impl.TenEvent) impl.TenState {
	s = copied(s)
	switch e.Kind {
	case impl.EvAsk:
		if s.Next < 9999 {
			s.Next++
			requested(c, &s, s.Next-1, e.Text)
		}
	case impl.EvReply, impl.EvFail:
		at := slices.IndexFunc(s.Jobs, func(job impl.TenJob) bool { return job.Id == e.Id })
		if at < 0 {
			break
		}
		job := s.Jobs[at]
		s.Jobs = slices.Delete(s.Jobs, at, at+1)
		if e.Kind == impl.EvFail {
			answered(&s, job.Id, 502, nil)
			break
		}
		data, code := turned(e.Data, job.Ops)
		if code == 200 {
			cached(c, &s, impl.TenFile{Path: job.Path, At: s.Clock, Data: bytes.Clone(e.Data)})
		}
		answered(&s, job.Id, code, data)
	case impl.EvTime:
		if e.At > s.Clock && e.At <= 9999 {
			timePassed(c, &s, e.At)
		}
	}
	return s
}

func answered(s *impl.TenState, id int, code int, data []byte) {
	if len(s.Outs) < 60 {
		s.Outs = append(s.Outs, impl.TenOut{Id: id, Code: code, Data: data})
	}
}

func cached(c impl.TenCfg, s *impl.TenState, file impl.TenFile) {
	s.Files = slices.DeleteFunc(s.Files, func(other impl.TenFile) bool { return other.Path == file.Path })
	if len(s.Files) == c.Keep {
		s.Files = s.Files[1:]
	}
	s.Files = append(s.Files, file)
}

func requested(c impl.TenCfg, s *impl.TenState, id int, text string) {
	a, code := urlParsed(c.Key, text, s.Clock)
	if code != 200 {
		answered(s, id, code, nil)
		return
	}
	if s.Tokens == 0 {
		answered(s, id, 429, nil)
		return
	}
	s.Tokens--
	if len(s.Jobs) == c.Most {
		answered(s, id, 503, nil)
		return
	}
	at := slices.IndexFunc(s.Files, func(file impl.TenFile) bool { return file.Path == a.Path })
	if at >= 0 && s.Clock-s.Files[at].At <= c.Ttl {
		file := s.Files[at]
		s.Files = append(slices.Delete(s.Files, at, at+1), file)
		data, code := turned(file.Data, a.Ops)
		answered(s, id, code, data)
		return
	}
	s.Jobs = append(s.Jobs, impl.TenJob{Id: id, Path: a.Path, Ops: a.Ops, Born: s.Clock})
	if len(s.Asked) < 60 {
		s.Asked = append(s.Asked, a.Path)
	}
}

func timePassed(c impl.TenCfg, s *impl.TenState, at int) {
	s.Clock = at
	for s.Since+c.Every <= s.Clock {
		s.Since += c.Every
		s.Tokens = min(s.Tokens+1, c.Burst)
	}
	for k := 0; k < len(s.Jobs); {
		if job := s.Jobs[k]; s.Clock-job.Born >= c.Wait {
			s.Jobs = slices.Delete(s.Jobs, k, k+1)
			answered(s, job.Id, 504, nil)
		} else {
			k++
		}
	}
}

// copied returns a state that shares no memory with the original.
func copied(s impl.TenState) impl.TenState {
	s.Jobs, s.Files, s.Asked, s.Outs = slices.Clone(s.Jobs), slices.Clone(s.Files), slices.Clone(s.Asked), slices.Clone(s.Outs)
	for k := range s.Jobs {
		s.Jobs[k].Ops = slices.Clone(s.Jobs[k].Ops)
	}
	for k := range s.Files {
		s.Files[k].Data = bytes.Clone(s.Files[k].Data)
	}
	for k := range s.Outs {
		s.Outs[k].Data = bytes.Clone(s.Outs[k].Data)
	}
	return s
}

func sameJob(a impl.TenJob, b impl.TenJob) bool {
	return a.Id == b.Id && a.Path == b.Path && a.Born == b.Born && slices.Equal(a.Ops, b.Ops)
}

func sameFile(a impl.TenFile, b impl.TenFile) bool {
	return a.Path == b.Path && a.At == b.At && bytes.Equal(a.Data, b.Data)
}

func sameOut(a impl.TenOut, b impl.TenOut) bool {
	return a.Id == b.Id && a.Code == b.Code && bytes.Equal(a.Data, b.Data)
}

func sameOuts(a []impl.TenOut, b []impl.TenOut) bool {
	return slices.EqualFunc(a, b, sameOut)
}

func sameFiles(a []impl.TenFile, b []impl.TenFile) bool {
	return slices.EqualFunc(a, b, sameFile)
}

func sameJobs(a []impl.TenJob, b []impl.TenJob) bool {
	return slices.EqualFunc(a, b, sameJob)
}

func sameState(a impl.TenState, b impl.TenState) bool {
	return a.Clock == b.Clock && a.Tokens == b.Tokens && a.Since == b.Since && a.Next == b.Next &&
		sameJobs(a.Jobs, b.Jobs) && sameFiles(a.Files, b.Files) && slices.Equal(a.Asked, b.Asked) && sameOuts(a.Outs, b.Outs)
}

func zeroState(s impl.TenState) bool {
	return sameState(s, impl.TenState{})
}

func wantState(t *testing.T, what any, got impl.TenState, want impl.TenState) {
	t.Helper()
	if !sameState(got, want) {
		t.Fatalf("%v:\n%v is not\n%v", what, got, want)
	}
}

// Runs from TenNew on.

// history is a run: states[k] is the state before events[k].
type history struct {
	c      impl.TenCfg
	events []impl.TenEvent
	states []impl.TenState
}

func (h history) end() impl.TenState {
	return h.states[len(h.states)-1]
}

// opsOfRuns are what requests in runs do; some of it is not possible with most rasters.
func opsOfRuns() [][]impl.OpOp {
	return [][]impl.OpOp{nil, {flipX}, {turn, gray}, {crop(0, 0, 1, 1)}, {crop(1, 0, 2, 2)}, {size(3, 2), blur}, {flat(1, 2, 3), flat(3, 2, 1), turn, turn, turn}, {crop(0, 0, 6, 6), crop(0, 0, 1, 1)}, {gray, gray}}
}

func pick[T any](rnd *rand.Rand, list []T) T {
	return list[rnd.IntN(len(list))]
}

// randomAsk is mostly signed and in time.
func randomAsk(rnd *rand.Rand, c impl.TenCfg, s impl.TenState) impl.TenEvent {
	path := pick(rnd, []string{"a", "a", "b", "b", "cat", "dog1", "zzzzzz"})
	ops := pick(rnd, opsOfRuns())
	till := min(s.Clock+pick(rnd, []int{1, 2, 50, 9999}), 9999)
	switch rnd.IntN(16) {
	case 0:
		return askedText(pick(rnd, []string{"", "/", "/-/a?e=5", "/-/A?e=5&s=0123456789abcdef", "/-/a?e=9999&s=0123456789abcdef", signed(c.Key, "/turn,/a?e=9999")}))
	case 1:
		return askedTill(withKey(c, []byte("other")), path, till, ops...)
	case 2:
		return askedTill(c, path, s.Clock, ops...)
	}
	return askedTill(c, path, till, ops...)
}

// randomTime is near a time that makes a difference; it is seldom far away.
func randomTime(rnd *rand.Rand, c impl.TenCfg, s impl.TenState) impl.TenEvent {
	times := []int{s.Clock + 1, s.Clock + 2, s.Since + c.Every, s.Since + c.Every - 1, s.Since + 2*c.Every, s.Since + c.Burst*c.Every}
	for _, job := range s.Jobs {
		times = append(times, job.Born+c.Wait-1, job.Born+c.Wait)
	}
	for _, file := range s.Files {
		times = append(times, file.At+c.Ttl, file.At+c.Ttl+1)
	}
	if rnd.IntN(12) == 0 {
		times = []int{s.Clock, s.Clock - 1, 0, -1, 10000, math.MinInt, math.MaxInt, s.Clock + 1<<32}
	}
	return passed(pick(rnd, times))
}

func randomEvent(rnd *rand.Rand, c impl.TenCfg, s impl.TenState) impl.TenEvent {
	id := pick(rnd, []int{0, 1, s.Next - 1, s.Next, s.Next + 1, -1, math.MinInt, math.MaxInt})
	if len(s.Jobs) > 0 && rnd.IntN(8) > 0 {
		id = pick(rnd, s.Jobs).Id
	}
	switch n := rnd.IntN(40); {
	case n < 20:
		return randomAsk(rnd, c, s)
	case n < 30:
		return replied(id, pick(rnd, goodFiles()))
	case n < 32:
		return replied(id, pick(rnd, badFiles()))
	case n < 34:
		return failed(id)
	case n < 39:
		return randomTime(rnd, c, s)
	}
	return impl.TenEvent{Kind: pick(rnd, []int{0, 5, -1, 255, 257, math.MinInt, math.MaxInt, 1<<32 + 1}), Text: randomAsk(rnd, c, s).Text, Id: id, Data: fileFor(1), At: s.Clock + 1}
}

// randomEvents are chosen by the states that the chapter describes, so that they do not depend on the program.
func randomEvents(c impl.TenCfg, s impl.TenState, seed int, n int) []impl.TenEvent {
	rnd := rand.New(rand.NewPCG(uint64(seed), 8))
	var list []impl.TenEvent
	for range n {
		e := randomEvent(rnd, c, s)
		list = append(list, e)
		s = stepped(c, s, e)
	}
	return list
}

// fresh is the initial state as the chapter describes it.
func fresh(c impl.TenCfg) impl.TenState {
	return impl.TenState{Tokens: c.Burst}
}

// manyJobs is a run with more than 60 jobs, all of which are late.
func manyJobs() []impl.TenEvent {
	c := config(9, 1, 4, 6, 3, 8)
	var list []impl.TenEvent
	for k := range 17 {
		for _, path := range []string{"a", "b", "c", "d"} {
			list = append(list, asked(c, path, turn))
		}
		list = append(list, passed(9*(k+1)))
	}
	return list
}

// playedRun performs a run with the program, one event at a time.
func playedRun(c impl.TenCfg, events []impl.TenEvent) history {
	h := history{c: c, events: events, states: []impl.TenState{impl.TenNew(c)}}
	for _, e := range events {
		h.states = append(h.states, impl.TenStep(c, h.end(), e))
	}
	return h
}

// histories are random runs of each configuration, and one that does not fit into the records.
var histories = sync.OnceValue(func() []history {
	list := []history{playedRun(config(9, 1, 4, 6, 3, 8), manyJobs())}
	for k, c := range configs() {
		for seed := range 12 {
			n := []int{1, 10, 40, 60, 80, 120}[seed%6]
			list = append(list, playedRun(c, randomEvents(c, fresh(c), 100*k+seed, n)))
		}
	}
	return list
})

// step is one event of a run: the states before and after it, and the responses that it adds.
type step struct {
	c      impl.TenCfg
	before impl.TenState
	e      impl.TenEvent
	after  impl.TenState
	outs   []impl.TenOut
}

func (s step) String() string {
	return fmt.Sprintf("%v:\nbefore %v\nafter %v", s.e, s.before, s.after)
}

// request is the request of an event with a number, and the code that UrlRead gives it.
func (s step) request() (impl.UrlAsk, int) {
	return urlParsed(s.c.Key, s.e.Text, s.before.Clock)
}

func (s step) numbered() bool {
	return s.e.Kind == impl.EvAsk && s.before.Next < 9999
}

// paid tells that the event is a signed request, and that there is a token for it.
func (s step) paid() bool {
	_, code := s.request()
	return s.numbered() && code == 200 && s.before.Tokens > 0
}

// job is the job that a reply or a failure concerns.
func (s step) job() (impl.TenJob, bool) {
	if s.e.Kind != impl.EvReply && s.e.Kind != impl.EvFail {
		return impl.TenJob{}, false
	}
	for _, job := range s.before.Jobs {
		if job.Id == s.e.Id {
			return job, true
		}
	}
	return impl.TenJob{}, false
}

// full tells that no response can be recorded any more.
func full(s impl.TenState) bool {
	return len(s.Outs) == 60
}

// eachStep checks the steps of all runs.
func eachStep(t *testing.T, check func(s step)) {
	t.Helper()
	for _, h := range histories() {
		for k, e := range h.events {
			before, after := h.states[k], h.states[k+1]
			if len(after.Outs) < len(before.Outs) {
				t.Fatalf("responses are gone: %v", step{c: h.c, before: before, e: e, after: after})
			}
			check(step{c: h.c, before: before, e: e, after: after, outs: after.Outs[len(before.Outs):]})
		}
	}
}

// few are some of the states of a run, and its last one.
func few(h history) []impl.TenState {
	var list []impl.TenState
	for k := 0; k < len(h.events); k += 7 {
		list = append(list, h.states[k])
	}
	return append(list, h.end())
}

// unchanged tells that all is as before, except for the number of the next request and the responses.
func unchanged(before impl.TenState, after impl.TenState) bool {
	after.Next, after.Outs = before.Next, before.Outs
	return sameState(before, after)
}

func codes(list []impl.TenOut) []int {
	var all []int
	for _, out := range list {
		all = append(all, out.Code)
	}
	return all
}

func paths(files []impl.TenFile) string {
	var all []string
	for _, file := range files {
		all = append(all, file.Path)
	}
	return strings.Join(all, " ")
}
