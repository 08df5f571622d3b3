package tests

import (
	"bytes"
	"fmt"
	"math"
	"math/rand/v2"
	"slices"
	"strings"
	"testing"

	"loop.example/easel/impl"
)

// The program against the chapter once more.

func TestRunsAreAsDescribed(t *testing.T) {
	for _, h := range histories() {
		wantState(t, "at first", h.states[0], fresh(h.c))
		for k, e := range h.events {
			wantState(t, e, h.states[k+1], stepped(h.c, h.states[k], e))
		}
	}
}

// What the other tests are about occurs in the runs often enough.
func TestRunsMeetEverything(t *testing.T) {
	met := map[string]int{}
	eachStep(t, func(s step) {
		for _, out := range s.outs {
			met[fmt.Sprint(out.Code)]++
		}
		_, found := s.job()
		a, _ := s.request()
		at := slices.IndexFunc(s.before.Files, func(file impl.TenFile) bool { return file.Path == a.Path })
		for what, is := range map[string]bool{
			"several late":             len(s.outs) > 1,
			"last token":               s.paid() && s.before.Tokens == 1,
			"cached":                   s.paid() && len(s.outs) == 1 && s.outs[0].Code == 200,
			"cached, not possible":     s.paid() && len(s.outs) == 1 && s.outs[0].Code == 422,
			"just Ttl old":             s.paid() && at >= 0 && s.before.Clock-s.before.Files[at].At == s.c.Ttl,
			"just older than Ttl":      s.paid() && at >= 0 && s.before.Clock-s.before.Files[at].At == s.c.Ttl+1,
			"cached, but no room":      s.paid() && at >= 0 && len(s.before.Jobs) == s.c.Most,
			"removed":                  found && len(s.after.Files) == len(s.before.Files) && paths(s.after.Files) != paths(s.before.Files),
			"replaced":                 found && s.e.Kind == impl.EvReply && paths(s.after.Files) == paths(s.before.Files) && !sameFiles(s.after.Files, s.before.Files),
			"two jobs of one name":     found && strings.Count(fmt.Sprint(s.before.Jobs), " "+s.before.Jobs[0].Path+" ") > 1,
			"unexpected":               s.e.Kind == impl.EvReply && !found,
			"unknown":                  s.e.Kind > impl.EvTime || s.e.Kind < impl.EvAsk,
			"no room for the response": s.numbered() && full(s.before),
			"no room for the name":     len(s.before.Asked) == 60 && len(s.after.Jobs) > len(s.before.Jobs),
		} {
			if is {
				met[what]++
			}
		}
	})
	for _, what := range []string{
		"200", "400", "403", "413", "415", "422", "429", "502", "503", "504", "several late", "last token", "cached", "cached, not possible", "just Ttl old", "just older than Ttl",
		"cached, but no room", "removed", "replaced", "two jobs of one name", "unexpected", "unknown", "no room for the response", "no room for the name",
	} {
		if met[what] < 5 {
			t.Errorf("%q is met only %d times", what, met[what])
		}
	}
}

// The constants of the chapter.
func TestConstantsOfTenants(t *testing.T) {
	got := []int{impl.TenKeep, impl.TenJobs, impl.TenOuts, impl.TenTime, impl.FileMost, impl.EvAsk, impl.EvReply, impl.EvFail, impl.EvTime, impl.EvMaxRun}
	if want := []int{3, 4, 60, 9999, 220, 1, 2, 3, 4, 120}; !slices.Equal(got, want) {
		t.Errorf("the constants are %v, not %v", got, want)
	}
}

// Promise 83: configurations can be minimal.

func TestConfigurations(t *testing.T) {
	for _, c := range configs() {
		for _, n := range []int{0, 1, 16, 31, 32} {
			if !impl.CfgOk(withKey(c, filled(n, 1))) {
				t.Errorf("%v is invalid with a key of %d bytes", c, n)
			}
		}
		for which, most := range numberMost {
			for value := -3; value <= most+3; value++ {
				other := c
				*numberOf(&other, which) = value
				if got := impl.CfgOk(other); got != (value >= 1 && value <= most) {
					t.Fatalf("that %v is valid is %v", other, got)
				}
			}
		}
	}
	for _, c := range invalidConfigs() {
		if impl.CfgOk(c) {
			t.Errorf("%v, with a key of %d bytes, is valid", c, len(c.Key))
		}
	}
}

// Promise 40: a tenant starts with all tokens.

func TestNewTenants(t *testing.T) {
	for _, c := range configs() {
		for burst := 1; burst <= 9; burst++ {
			c.Burst = burst
			s := impl.TenNew(c)
			wantState(t, c, s, impl.TenState{Tokens: burst})
			if !impl.TenOk(c, s) {
				t.Errorf("%v: %v is invalid", c, s)
			}
		}
	}
	for _, c := range invalidConfigs() {
		wantState(t, c, impl.TenNew(c), impl.TenState{})
	}
}

// Promise 38: faults are reported in order.

func wantTurned(t *testing.T, file []byte, ops []impl.OpOp, want []byte, code int) {
	t.Helper()
	if got, how := impl.TurnFile(file, ops); how != code || !bytes.Equal(got, want) {
		t.Fatalf("%d bytes, %v, with %v are %v, %d, not %v, %d", len(file), file[:min(len(file), 40)], ops, got, how, want, code)
	}
}

// invalidLists have an operation that is invalid, or more than five.
func invalidLists() [][]impl.OpOp {
	list := [][]impl.OpOp{slices.Repeat([]impl.OpOp{turn}, 6), slices.Repeat([]impl.OpOp{flipX}, 7), slices.Repeat([]impl.OpOp{turn}, 261), slices.Repeat([]impl.OpOp{{}}, 6)}
	for _, o := range append(invalidOps(), impl.OpOp{}) {
		list = append(list, []impl.OpOp{o}, []impl.OpOp{turn, turn, turn, turn, o})
	}
	return append(list, []impl.OpOp{crop(5, 5, 6, 6), {}}, []impl.OpOp{{}, crop(5, 5, 6, 6)})
}

// impossible are valid lists that cannot be done with a raster of two by two pixels; the last ones can be if they are simplified.
func impossible() [][]impl.OpOp {
	return [][]impl.OpOp{
		{crop(1, 0, 2, 1)}, {crop(0, 1, 1, 2)}, {crop(2, 0, 1, 1)}, {crop(0, 0, 3, 2)}, {size(1, 1), crop(0, 0, 2, 1)}, {turn, gray, blur, flipX, crop(5, 5, 6, 6)}, {crop(5, 5, 1, 1), size(6, 6)},
		{crop(0, 0, 6, 6), crop(0, 0, 1, 1)}, {crop(0, 0, 3, 3), crop(1, 1, 1, 1)}, {flipX, crop(0, 0, 2, 3), crop(0, 0, 1, 1), flipX},
	}
}

func TestFilesThatAreTooLong(t *testing.T) {
	lists := append(append(impossible(), invalidLists()...), nil, []impl.OpOp{turn})
	for _, start := range append(goodFiles(), badFiles()[:7]...) {
		for _, n := range []int{221, 222, 256, 220 + 256, 100000} {
			for _, ops := range lists[:20] {
				wantTurned(t, sized(start, n), ops, nil, impl.CodLarge)
			}
		}
	}
	for _, ops := range lists {
		wantTurned(t, make([]byte, 221), ops, nil, impl.CodLarge)
		wantTurned(t, sized(fileFor(1), 221), ops, nil, impl.CodLarge)
	}
}

// A file of FileMost bytes is not too long, but the longest readable one has fewer.
func TestLongestFiles(t *testing.T) {
	for n := 1; n <= 220; n++ {
		wantTurned(t, bytes.Repeat([]byte{'x'}, n), nil, nil, impl.CodWhat)
		wantTurned(t, bytes.Repeat([]byte{'D'}, n), nil, nil, impl.CodBroken)
	}
	longest := fileOf('R', filled(9, 1), bodyOf('R', raster(6, 6, 2)))
	if _, code := impl.TurnFile(longest, nil); len(longest) != 197 || code != impl.CodGood {
		t.Errorf("the code of a file of %d bytes is %d", len(longest), code)
	}
	wantTurned(t, sized(longest, 220), nil, nil, impl.CodBroken)
	wantTurned(t, sized(longest, 221), nil, nil, impl.CodLarge)
}

func TestInvalidOperationsComeBeforeOtherFaults(t *testing.T) {
	for _, ops := range invalidLists() {
		for _, file := range [][]byte{nil, []byte("GIF"), bytes.Repeat([]byte{'x'}, 220), {'D'}, fileFor(3), bytes.Repeat([]byte{'P'}, 220)} {
			wantTurned(t, file, ops, nil, impl.CodBroken)
		}
	}
}

func TestUnknownKindsAreReported(t *testing.T) {
	lists := append(impossible(), nil, []impl.OpOp{turn}, slices.Repeat([]impl.OpOp{turn}, 5))
	for kind := range 256 {
		known := slices.Contains(kinds, byte(kind))
		for _, ops := range lists {
			for _, file := range [][]byte{{byte(kind)}, sized([]byte{byte(kind)}, 220), fileOf(byte(kind), nil, []byte("x"))} {
				if known {
					wantTurned(t, file, ops, nil, impl.CodBroken)
				} else {
					wantTurned(t, file, ops, nil, impl.CodWhat)
				}
			}
		}
	}
	for _, ops := range lists {
		wantTurned(t, nil, ops, nil, impl.CodWhat)
	}
}

func TestImpossibleOperationsAreReported(t *testing.T) {
	for _, kind := range kinds {
		file := fileOf(kind, []byte("note"), bodyOf(kind, raster(2, 2, 3)))
		for _, ops := range impossible() {
			wantTurned(t, file, ops, nil, impl.CodBroken)
		}
	}
}

func TestFilesAreTurnedAsDescribed(t *testing.T) {
	lists := append(append(opsOfRuns(), impossible()...), invalidLists()[:8]...)
	for _, file := range append(goodFiles(), badFiles()...) {
		for _, ops := range lists {
			want, code := turned(file, ops)
			wantTurned(t, file, ops, want, code)
		}
	}
}

// Promise 5: the result depends on the pixels alone.

func TestTheResultDependsOnThePixels(t *testing.T) {
	for _, r := range append(someRasters(), fewRasters()...) {
		for _, o := range append(someOps(), flat(255, 0, 128)) {
			for _, ops := range [][]impl.OpOp{nil, {o}, {o, turn}, {flipX, o, gray}, {o, o, blur, o, o}} {
				want, possible := impl.OpsDo(r, ops)
				for n, kind := range kinds {
					for _, note := range [][]byte{nil, {0}, filled(9, n)} {
						file := impl.FormWrite(kind, note, r)
						if possible {
							wantTurned(t, file, ops, impl.FormPut(want), impl.CodGood)
						} else {
							wantTurned(t, file, ops, nil, impl.CodBroken)
						}
					}
				}
			}
		}
	}
}

func TestOtherRunsOfTheSamePixels(t *testing.T) {
	red, blue := []byte{200, 0, 0, 255}, []byte{0, 0, 200, 9}
	pixels := impl.RasRaster{W: 2, H: 2, Pix: []impl.PixPix{{R: 200, A: 255}, {R: 200, A: 255}, {R: 200, A: 255}, {B: 200, A: 9}}}
	for _, ops := range [][]impl.OpOp{nil, {turn}, {blur}} {
		want, _ := turned(impl.FormPut(pixels), ops)
		for _, lengths := range [][]byte{{3}, {1, 2}, {2, 1}, {1, 1, 1}} {
			body := []byte{2, 2}
			for _, n := range lengths {
				body = append(append(body, n), red...)
			}
			wantTurned(t, fileOf('R', nil, append(append(body, 1), blue...)), ops, want, impl.CodGood)
		}
		// Each byte by itself, instead of the longest prefixes.
		var single []int
		for _, b := range bytesOf(pixels) {
			single = append(single, int(b))
		}
		wantTurned(t, fileOf('P', nil, ended(single...)), ops, want, impl.CodGood)
	}
}

// Promise 2, as a tenant uses it: what comes back without operations is the raster of the file.
func TestFilesOfEachKindComeBack(t *testing.T) {
	for _, r := range formRasters() {
		for _, kind := range kinds {
			data, code := impl.TurnFile(impl.FormWrite(kind, []byte("note"), r), nil)
			if code != impl.CodGood {
				t.Fatalf("the code of the file of kind %c of %v is %d", kind, r, code)
			}
			wantRead(t, data, r)
		}
	}
}

// Promise 11: simplified operation lists have the same effect.

func TestSimplifiedListsTurnFilesTheSame(t *testing.T) {
	lists := slices.Concat(words(5, turn, flipX, crop(1, 0, 3, 3)), words(4, crop(2, 0, 4, 6), crop(0, 1, 3, 4), crop(0, 0, 2, 2), flipY), words(3, size(2, 3), gray, flat(1, 2, 3), flat(3, 2, 1), blur))
	simpler, good := 0, 0
	for _, list := range lists {
		short := impl.OpsFold(list)
		for _, r := range []impl.RasRaster{raster(6, 6, 7), raster(4, 3, 5)} {
			file := impl.FormWrite(impl.FormUp, nil, r)
			data, code := impl.TurnFile(file, list)
			if code != impl.CodGood {
				wantTurned(t, file, list, nil, impl.CodBroken)
				continue
			}
			wantTurned(t, file, short, data, impl.CodGood)
			good++
			if len(short) < len(list) {
				simpler++
			}
		}
	}
	if simpler < 100 || good < 500 {
		t.Errorf("only %d of %d lists are simpler", simpler, good)
	}
}

// Promise 100: responses are files.

func TestResponsesAreFiles(t *testing.T) {
	for _, file := range goodFiles() {
		for _, first := range words(2, turn, crop(0, 0, 1, 1), size(3, 2), gray) {
			data, code := impl.TurnFile(file, first)
			if code != impl.CodGood {
				t.Fatalf("the code of %v with %v is %d", file, first, code)
			}
			wantTurned(t, data, nil, data, impl.CodGood)
			for _, second := range words(2, flipX, crop(1, 0, 2, 2), blur) {
				want, how := impl.TurnFile(data, second)
				wantTurned(t, file, slices.Concat(first, second), want, how)
			}
		}
	}
	long := slices.Repeat([]impl.OpOp{turn}, 5)
	data, _ := impl.TurnFile(fileFor(1), long)
	want, _ := impl.TurnFile(fileFor(1), long[:1])
	wantTurned(t, data, nil, want, impl.CodGood)
	wantTurned(t, fileFor(1), append(long, turn), nil, impl.CodBroken)
}

// Promise 39: every event keeps a state valid, and nothing comes of an invalid one.

// example has something of everything; it is valid for exampleConfig, but no run leads to it.
func example() impl.TenState {
	return impl.TenState{
		Clock: 20, Tokens: 2, Since: 11, Next: 7,
		Jobs:  []impl.TenJob{{Id: 3, Path: "a", Ops: []impl.OpOp{turn, size(3, 2)}, Born: 12}, {Id: 6, Path: "a1", Born: 20}},
		Files: []impl.TenFile{{Path: "b", At: 20, Data: fileFor(1)}, {Path: "a", At: 9, Data: fileFor(2)}},
		Asked: []string{"b", "a", "a", "zzzzzz"},
		Outs:  []impl.TenOut{{Id: 0, Code: 200, Data: impl.FormPut(raster(2, 1, 5))}, {Id: 1, Code: 429}, {Id: 5, Code: 400}},
	}
}

func exampleConfig() impl.TenCfg {
	return config(3, 5, 3, 10, 3, 9)
}

// changed returns a copy of a state that was changed.
func changed(s impl.TenState, change func(s *impl.TenState)) impl.TenState {
	s = copied(s)
	change(&s)
	return s
}

// numberedOuts are n responses with numbers below 7.
func numberedOuts(n int) []impl.TenOut {
	var list []impl.TenOut
	for k := range n {
		list = append(list, impl.TenOut{Id: k % 7, Code: 429})
	}
	return list
}

func validStates() []impl.TenState {
	s := example()
	list := []impl.TenState{s, {}}
	for _, change := range []func(s *impl.TenState){
		func(s *impl.TenState) { s.Clock = 9999 },
		func(s *impl.TenState) { s.Clock, s.Since = 9999, 9999 },
		func(s *impl.TenState) { s.Since = 0 },
		func(s *impl.TenState) { s.Since = 20 },
		func(s *impl.TenState) { s.Tokens = 0 },
		func(s *impl.TenState) { s.Tokens = 3 },
		func(s *impl.TenState) { s.Next = 9999 },
		func(s *impl.TenState) { s.Next, s.Jobs[1].Id, s.Outs[2].Id = 9999, 9998, 9998 },
		func(s *impl.TenState) { s.Jobs = nil },
		func(s *impl.TenState) { s.Jobs[0].Id, s.Jobs[1].Id = 0, 1 },
		func(s *impl.TenState) { s.Jobs[0].Born, s.Jobs[1].Born = 20, 0 },
		func(s *impl.TenState) { s.Jobs[0].Path, s.Jobs[1].Path = "0", "z9z9z9" },
		func(s *impl.TenState) { s.Jobs[0].Ops = slices.Repeat([]impl.OpOp{crop(5, 5, 6, 6)}, 5) },
		func(s *impl.TenState) {
			s.Jobs = []impl.TenJob{{Id: 2, Path: "a"}, {Id: 5, Path: "a"}, {Id: 6, Path: "a"}}
		},
		func(s *impl.TenState) { s.Files = nil },
		func(s *impl.TenState) { s.Files = append(s.Files, impl.TenFile{Path: "c"}) },
		func(s *impl.TenState) { s.Files[0].At, s.Files[1].At = 0, 20 },
		func(s *impl.TenState) { s.Files[0].Data, s.Files[1].Data = nil, filled(220, 1) },
		func(s *impl.TenState) { s.Asked = nil },
		func(s *impl.TenState) { s.Asked = slices.Repeat([]string{"a"}, 60) },
		func(s *impl.TenState) { s.Outs = nil },
		func(s *impl.TenState) { s.Outs = numberedOuts(60) },
		func(s *impl.TenState) { s.Outs[1].Id, s.Outs[2].Id = 6, 0 },
		func(s *impl.TenState) { s.Outs[0].Data = filled(220, 1) },
		func(s *impl.TenState) { s.Outs[0].Data = []byte{0} },
	} {
		list = append(list, changed(s, change))
	}
	for _, code := range []int{400, 403, 413, 415, 422, 429, 502, 503, 504} {
		list = append(list, changed(s, func(s *impl.TenState) { s.Outs[2].Code = code }))
	}
	return list
}

// invalidStates are the example, or the zero value, with one thing wrong each.
func invalidStates() []impl.TenState {
	s := example()
	list := []impl.TenState{{Next: -1}, {Next: 10000}, {Clock: -1}, {Clock: -1, Since: -1}, {Clock: 10000}, {Tokens: -1}, {Since: 1}, {Outs: []impl.TenOut{{Code: 400}}}, {Jobs: []impl.TenJob{{Path: "a"}}}}
	add := func(change func(s *impl.TenState)) {
		list = append(list, changed(s, change))
	}
	// numbers sets the number that find finds to values below and above what is allowed.
	numbers := func(low int, high int, find func(s *impl.TenState) *int) {
		for _, value := range []int{low - 1, low - 2, high + 1, high + 2, -1 << 32, 1<<32 + 1, math.MinInt, math.MaxInt} {
			add(func(s *impl.TenState) { *find(s) = value })
		}
	}
	numbers(20, 9999, func(s *impl.TenState) *int { return &s.Clock })
	numbers(0, 3, func(s *impl.TenState) *int { return &s.Tokens })
	numbers(0, 20, func(s *impl.TenState) *int { return &s.Since })
	numbers(7, 9999, func(s *impl.TenState) *int { return &s.Next })
	numbers(0, 5, func(s *impl.TenState) *int { return &s.Jobs[0].Id })
	numbers(4, 6, func(s *impl.TenState) *int { return &s.Jobs[1].Id })
	numbers(0, 20, func(s *impl.TenState) *int { return &s.Jobs[0].Born })
	numbers(0, 20, func(s *impl.TenState) *int { return &s.Jobs[1].Born })
	numbers(0, 20, func(s *impl.TenState) *int { return &s.Files[0].At })
	numbers(0, 20, func(s *impl.TenState) *int { return &s.Files[1].At })
	numbers(0, 6, func(s *impl.TenState) *int { return &s.Outs[0].Id })
	numbers(0, 6, func(s *impl.TenState) *int { return &s.Outs[2].Id })
	add(func(s *impl.TenState) { s.Jobs[0], s.Jobs[1] = s.Jobs[1], s.Jobs[0] })
	add(func(s *impl.TenState) {
		s.Jobs = []impl.TenJob{{Id: 0, Path: "a"}, {Id: 1, Path: "b"}, {Id: 2, Path: "c"}, {Id: 3, Path: "d"}}
	})
	for _, name := range badNames() {
		add(func(s *impl.TenState) { s.Jobs[0].Path = name })
		add(func(s *impl.TenState) { s.Jobs[1].Path = name })
		add(func(s *impl.TenState) { s.Files[0].Path = name })
		add(func(s *impl.TenState) { s.Files[1].Path = name })
		add(func(s *impl.TenState) { s.Asked[0] = name })
		add(func(s *impl.TenState) { s.Asked[3] = name })
	}
	for _, ops := range invalidLists() {
		add(func(s *impl.TenState) { s.Jobs[0].Ops = ops })
		add(func(s *impl.TenState) { s.Jobs[1].Ops = ops })
	}
	add(func(s *impl.TenState) { s.Files[1].Path = "b" })
	add(func(s *impl.TenState) { s.Files = append(s.Files, impl.TenFile{Path: "b"}) })
	add(func(s *impl.TenState) { s.Files = append(s.Files, impl.TenFile{Path: "c"}, impl.TenFile{Path: "d"}) })
	for _, n := range []int{221, 222, 256, 100000} {
		add(func(s *impl.TenState) { s.Files[0].Data = filled(n, 1) })
		add(func(s *impl.TenState) { s.Files[1].Data = filled(n, 1) })
		add(func(s *impl.TenState) { s.Outs[0].Data = filled(n, 1) })
	}
	for _, n := range []int{61, 62, 120, 256, 100000} {
		add(func(s *impl.TenState) { s.Asked = slices.Repeat([]string{"a"}, n) })
		add(func(s *impl.TenState) { s.Outs = numberedOuts(n) })
	}
	for _, code := range []int{0, 1, 199, 201, 401, 402, 404, 412, 414, 416, 421, 423, 428, 430, 500, 501, 505, -200, 200 + 1<<32, 400 + 1<<32, math.MinInt, math.MaxInt} {
		add(func(s *impl.TenState) { s.Outs[0].Code = code })
		add(func(s *impl.TenState) { s.Outs[1].Code = code })
		add(func(s *impl.TenState) { s.Outs[2].Code = code })
	}
	for _, code := range []int{400, 403, 413, 415, 422, 429, 502, 503, 504} {
		add(func(s *impl.TenState) { s.Outs[0].Code = code })
	}
	add(func(s *impl.TenState) { s.Outs[0].Data = nil })
	add(func(s *impl.TenState) { s.Outs[0].Data = []byte{} })
	add(func(s *impl.TenState) { s.Outs[1].Data = []byte{0} })
	add(func(s *impl.TenState) { s.Outs[2].Code = 200 })
	return list
}

// oneOfEach are events of each kind that do something to the example, and one that does nothing to anything.
func oneOfEach(c impl.TenCfg) []impl.TenEvent {
	return []impl.TenEvent{asked(c, "a", turn), asked(c, "c"), askedText("/"), replied(3, fileFor(1)), replied(6, nil), failed(3), failed(6), passed(21), passed(500), {}}
}

func wantNothing(t *testing.T, c impl.TenCfg, s impl.TenState) {
	t.Helper()
	if impl.TenOk(c, s) {
		t.Fatalf("%v is valid for %v", s, c)
	}
	events := oneOfEach(c)
	for _, e := range events {
		wantState(t, "a step of an invalid state", impl.TenStep(c, s, e), impl.TenState{})
	}
	wantState(t, "a run of an invalid state", impl.TenRun(c, s, events), impl.TenState{})
	wantState(t, "an empty run of an invalid state", impl.TenRun(c, s, nil), impl.TenState{})
}

func TestValidStates(t *testing.T) {
	c := exampleConfig()
	for _, s := range validStates() {
		if !impl.TenOk(c, s) {
			t.Fatalf("%v is invalid", s)
		}
		wantState(t, "an empty run", impl.TenRun(c, s, nil), s)
		for _, e := range oneOfEach(c) {
			next := impl.TenStep(c, s, e)
			wantState(t, e, next, stepped(c, s, e))
			if !impl.TenOk(c, next) {
				t.Fatalf("%v is invalid after %v", next, e)
			}
		}
	}
}

func TestInvalidStates(t *testing.T) {
	for _, s := range invalidStates() {
		wantNothing(t, exampleConfig(), s)
	}
}

func TestStatesOfInvalidConfigurations(t *testing.T) {
	for _, c := range invalidConfigs() {
		wantNothing(t, c, impl.TenState{})
		wantNothing(t, c, example())
	}
}

// What the configuration bounds in a state is bounded by just that configuration.
func TestStatesOfOtherConfigurations(t *testing.T) {
	s := example()
	for burst := 1; burst <= 9; burst++ {
		for most := 1; most <= 4; most++ {
			for keep := 1; keep <= 3; keep++ {
				c := config(burst, 1, most, 1, keep, 1)
				if got := impl.TenOk(c, s); got != (burst >= 2 && most >= 2 && keep >= 2) {
					t.Errorf("that the example is valid for %v is %v", c, got)
				}
			}
		}
	}
}

func TestEveryEventKeepsAStateValid(t *testing.T) {
	for _, h := range histories() {
		for k, s := range h.states {
			if !impl.TenOk(h.c, s) {
				t.Fatalf("after %d events: %v is invalid", k, s)
			}
		}
	}
}

// randomState is valid, but seldom one that a run leads to.
func randomState(rnd *rand.Rand, c impl.TenCfg) impl.TenState {
	s := impl.TenState{Clock: pick(rnd, []int{0, 1, 30, 500, 9990, 9999}), Tokens: rnd.IntN(c.Burst + 1), Next: pick(rnd, []int{4, 50, 9997, 9998, 9999})}
	s.Since = rnd.IntN(s.Clock + 1)
	age := func(most int) int { return s.Clock - min(s.Clock, rnd.IntN(most+3)) }
	for k := range rnd.IntN(c.Most + 1) {
		s.Jobs = append(s.Jobs, impl.TenJob{Id: k, Path: pick(rnd, []string{"a", "b", "cat"}), Ops: pick(rnd, opsOfRuns()), Born: age(c.Wait)})
	}
	for _, path := range []string{"b", "cat", "a"}[:rnd.IntN(c.Keep+1)] {
		s.Files = append(s.Files, impl.TenFile{Path: path, At: age(c.Ttl), Data: pick(rnd, slices.DeleteFunc(append(goodFiles(), badFiles()...), func(file []byte) bool { return len(file) > 220 }))})
	}
	s.Asked = slices.Repeat([]string{"a"}, pick(rnd, []int{0, 1, 58, 59, 60}))
	for range pick(rnd, []int{0, 1, 57, 58, 59, 60}) {
		s.Outs = append(s.Outs, impl.TenOut{Id: rnd.IntN(s.Next), Code: 200, Data: []byte{byte(len(s.Outs))}})
	}
	return s
}

func TestAllStatesAreSteppedAsDescribed(t *testing.T) {
	rnd := rand.New(rand.NewPCG(1, 2))
	for _, c := range configs() {
		for seed := range 80 {
			s := randomState(rnd, c)
			if !impl.TenOk(c, s) {
				t.Fatalf("%v is invalid for %v", s, c)
			}
			for _, e := range randomEvents(c, s, seed, 12) {
				next := stepped(c, s, e)
				wantState(t, e, impl.TenStep(c, s, e), next)
				if !impl.TenOk(c, next) {
					t.Fatalf("%v is invalid after %v", next, e)
				}
				s = next
			}
		}
	}
}

// Promise 41: runs can be split.

func TestRunsCanBeSplit(t *testing.T) {
	for _, h := range histories() {
		for k := 0; k <= len(h.events); k += 5 {
			wantState(t, "a run", impl.TenRun(h.c, h.states[0], h.events[:k]), h.states[k])
			wantState(t, "the rest of a run", impl.TenRun(h.c, h.states[k], h.events[k:]), h.end())
		}
		wantState(t, "a whole run", impl.TenRun(h.c, impl.TenNew(h.c), h.events), h.end())
	}
}

func TestEmptyRuns(t *testing.T) {
	for _, h := range histories() {
		for _, s := range few(h) {
			wantState(t, "no events", impl.TenRun(h.c, s, nil), s)
			wantState(t, "no events", impl.TenRun(h.c, s, []impl.TenEvent{}), s)
		}
	}
}

func TestLongRuns(t *testing.T) {
	c := config(9, 1, 4, 6, 3, 8)
	for _, e := range []impl.TenEvent{{}, askedText("/"), asked(c, "a"), failed(3), passed(5), passed(0)} {
		events := slices.Repeat([]impl.TenEvent{e}, 120)
		s := impl.TenNew(c)
		for _, e := range events {
			s = impl.TenStep(c, s, e)
		}
		wantState(t, "120 events", impl.TenRun(c, impl.TenNew(c), events), s)
		wantState(t, "120 events", impl.TenRun(c, example(), events), impl.TenRun(c, impl.TenRun(c, example(), events[:60]), events[60:]))
		for _, n := range []int{121, 122, 240, 256, 256 + 120, 100000} {
			wantState(t, "too many events", impl.TenRun(c, impl.TenNew(c), slices.Repeat([]impl.TenEvent{e}, n)), impl.TenState{})
		}
	}
}

// Promise 42: each request is answered once.

func TestEachRequestIsAnsweredOnce(t *testing.T) {
	for _, h := range histories() {
		for _, s := range h.states {
			met := map[int]bool{}
			for _, out := range s.Outs {
				if met[out.Id] || out.Id < 0 || out.Id >= s.Next {
					t.Fatalf("%d has two responses, or is no request: %v", out.Id, s)
				}
				met[out.Id] = true
			}
			for _, job := range s.Jobs {
				if met[job.Id] || job.Id < 0 || job.Id >= s.Next {
					t.Fatalf("%d has a response and a job, or is no request: %v", job.Id, s)
				}
				met[job.Id] = true
			}
			if s.Next-len(s.Jobs) <= 60 && len(met) != s.Next {
				t.Fatalf("only %d of %d requests have a response or are jobs: %v", len(met), s.Next, s)
			}
		}
	}
}

// Promises 43 and 101: whoever waits too long is told so.

func TestWhoWaitsTooLongIsToldSo(t *testing.T) {
	eachStep(t, func(s step) {
		for _, job := range s.after.Jobs {
			if s.after.Clock-job.Born >= s.c.Wait {
				t.Fatalf("a job has waited too long: %v", s)
			}
		}
		var late []int
		for _, job := range s.before.Jobs {
			if s.after.Clock-job.Born >= s.c.Wait {
				late = append(late, job.Id)
			}
		}
		var told []int
		for _, out := range s.outs {
			if out.Code == impl.CodLate {
				told = append(told, out.Id)
			}
		}
		if room := 60 - len(s.before.Outs); !slices.Equal(told, late[:min(len(late), room)]) || len(told) > 0 && s.e.Kind != impl.EvTime {
			t.Fatalf("%v are late, but %v are told so: %v", late, told, s)
		}
	})
}

func TestEventuallyEverythingIsAnswered(t *testing.T) {
	for _, h := range histories() {
		for _, s := range h.states {
			if s.Clock+h.c.Wait > 9999 {
				continue
			}
			end := impl.TenStep(h.c, s, passed(s.Clock+h.c.Wait))
			if len(end.Jobs) > 0 || len(end.Outs) != min(s.Next, 60) || end.Next != s.Next {
				t.Fatalf("%v is not all that was asked for in %v", end, s)
			}
			if added := end.Outs[len(s.Outs):]; !full(end) && (len(added) != len(s.Jobs) || slices.ContainsFunc(added, func(out impl.TenOut) bool { return out.Code != 504 })) {
				t.Fatalf("the jobs of %v are answered by %v", s, added)
			}
		}
	}
}

// Promise 44: there are no more jobs than allowed.

func TestThereAreNoMoreJobsThanAllowed(t *testing.T) {
	eachStep(t, func(s step) {
		if len(s.after.Jobs) > s.c.Most {
			t.Fatalf("too many jobs: %v", s)
		}
		busy := slices.Contains(codes(s.outs), impl.CodBusy)
		if !full(s.before) && busy != (s.paid() && len(s.before.Jobs) == s.c.Most) {
			t.Fatalf("that there are too many jobs is said: %v: %v", busy, s)
		}
		if busy && (!unchanged(s.before, withTokens(s.after, s.before.Tokens)) || s.after.Tokens != s.before.Tokens-1) {
			t.Fatalf("more happens to a request than to be refused: %v", s)
		}
	})
}

func withTokens(s impl.TenState, tokens int) impl.TenState {
	s.Tokens = tokens
	return s
}

// Promise 45: cached files were fetched.

func TestCachedFilesWereFetched(t *testing.T) {
	for _, h := range histories() {
		lastUsed := ""
		originals := map[string][]byte{}
		for k, e := range h.events {
			s := step{c: h.c, before: h.states[k], e: e, after: h.states[k+1]}
			job, found := s.job()
			a, _ := s.request()
			at := slices.IndexFunc(s.before.Files, func(file impl.TenFile) bool { return file.Path == a.Path })
			if _, code := turned(e.Data, job.Ops); found && e.Kind == impl.EvReply && code == impl.CodGood {
				lastUsed = job.Path
				originals[job.Path] = e.Data
			} else if s.paid() && len(s.before.Jobs) < h.c.Most && at >= 0 && s.before.Clock-s.before.Files[at].At <= h.c.Ttl {
				lastUsed = a.Path
			}
			wantCached(t, s, lastUsed, originals)
		}
	}
}

func wantCached(t *testing.T, s step, lastUsed string, originals map[string][]byte) {
	t.Helper()
	files := s.after.Files
	met := map[string]bool{}
	for _, file := range files {
		if _, how := impl.FormGet(file.Data); how != impl.FormGood || met[file.Path] || !bytes.Equal(file.Data, originals[file.Path]) {
			t.Fatalf("%v is not readable, not what was fetched last, or there twice: %v", file, s)
		}
		met[file.Path] = true
	}
	if len(files) > s.c.Keep || len(files) != min(s.c.Keep, len(originals)) {
		t.Fatalf("%d files are cached: %v", len(files), s)
	}
	if len(files) > 0 && files[len(files)-1].Path != lastUsed {
		t.Fatalf("%q was used last: %v", lastUsed, s)
	}
}

// Promise 46: cached files are not fetched.

func TestCachedFilesAreNotFetched(t *testing.T) {
	eachStep(t, func(s step) {
		if !s.paid() || len(s.before.Jobs) == s.c.Most {
			if len(s.after.Jobs) > len(s.before.Jobs) || len(s.after.Asked) > len(s.before.Asked) {
				t.Fatalf("something is fetched: %v", s)
			}
			return
		}
		a, _ := s.request()
		for _, file := range s.before.Files {
			if file.Path != a.Path || s.before.Clock-file.At > s.c.Ttl {
				continue
			}
			data, code := impl.TurnFile(file.Data, a.Ops)
			want := []impl.TenOut{{Id: s.before.Next, Code: code, Data: data}}
			if full(s.before) {
				want = nil
			}
			if !sameOuts(s.outs, want) || !sameJobs(s.before.Jobs, s.after.Jobs) || !slices.Equal(s.before.Asked, s.after.Asked) {
				t.Fatalf("a cached file is not used: %v", s)
			}
			return
		}
		if len(s.outs) != 0 || len(s.after.Jobs) != len(s.before.Jobs)+1 || !sameFiles(s.before.Files, s.after.Files) {
			t.Fatalf("nothing is fetched: %v", s)
		}
	})
}

// Promises 86 and 89: fetched names were requested, and jobs are as requested.

func TestFetchedNamesWereRequested(t *testing.T) {
	for _, h := range histories() {
		var started []string
		for k := range h.events {
			before, after := h.states[k], h.states[k+1]
			s := step{c: h.c, before: before, e: h.events[k], after: after}
			a, code := s.request()
			for _, job := range after.Jobs {
				if job.Id < before.Next {
					continue
				}
				if !s.paid() || code != 200 || !sameJob(job, impl.TenJob{Id: before.Next, Path: a.Path, Ops: a.Ops, Born: before.Clock}) {
					t.Fatalf("%v is not requested: %v", job, s)
				}
				started = append(started, job.Path)
			}
			if !slices.Equal(after.Asked, started[:min(len(started), 60)]) {
				t.Fatalf("%v were started: %v", started, s)
			}
		}
	}
}

func TestJobsAreAsRequested(t *testing.T) {
	for _, h := range histories() {
		asks := map[int]impl.UrlAsk{}
		for k := range h.events {
			s := step{c: h.c, before: h.states[k], e: h.events[k], after: h.states[k+1]}
			if s.numbered() {
				asks[s.before.Next], _ = s.request()
			}
			last := -1
			for _, job := range s.after.Jobs {
				if a, known := asks[job.Id]; !known || job.Path != a.Path || !slices.Equal(job.Ops, a.Ops) || job.Id <= last {
					t.Fatalf("%v is not as requested, or not in order: %v", job, s)
				}
				last = job.Id
			}
		}
	}
}

// Promise 87: the least recently used file is removed.

func TestTheLeastRecentlyUsedFileIsRemoved(t *testing.T) {
	eachStep(t, func(s step) {
		var gone []string
		kept := []impl.TenFile{}
		for _, file := range s.before.Files {
			if strings.Contains(" "+paths(s.after.Files)+" ", " "+file.Path+" ") {
				kept = append(kept, file)
			} else {
				gone = append(gone, file.Path)
			}
		}
		if len(gone) > 1 || len(gone) == 1 && (gone[0] != s.before.Files[0].Path || s.e.Kind != impl.EvReply || len(s.before.Files) != s.c.Keep) {
			t.Fatalf("%v are removed: %v", gone, s)
		}
		if sameFiles(kept, s.after.Files) {
			return
		}
		// One file is used or new: it is the last one, and all others are in order.
		last := s.after.Files[len(s.after.Files)-1]
		kept = slices.DeleteFunc(kept, func(file impl.TenFile) bool { return file.Path == last.Path })
		if !sameFiles(kept, s.after.Files[:len(s.after.Files)-1]) {
			t.Fatalf("other files are moved: %v", s)
		}
	})
}

// Promise 54: time and records only grow.

func TestTimeAndRecordsOnlyGrow(t *testing.T) {
	eachStep(t, func(s step) {
		if s.after.Clock < s.before.Clock || s.after.Next < s.before.Next || len(s.after.Asked) < len(s.before.Asked) ||
			!sameOuts(s.after.Outs[:len(s.before.Outs)], s.before.Outs) || !slices.Equal(s.after.Asked[:len(s.before.Asked)], s.before.Asked) {
			t.Fatalf("something decreases: %v", s)
		}
		if s.e.Kind != impl.EvTime && s.after.Clock != s.before.Clock || s.e.Kind == impl.EvTime && s.e.At > s.before.Clock && s.e.At <= 9999 && s.after.Clock != s.e.At {
			t.Fatalf("the time is wrong: %v", s)
		}
	})
}

func TestTimesThatAreNotLater(t *testing.T) {
	for _, h := range histories() {
		for _, s := range few(h) {
			for _, at := range []int{s.Clock, s.Clock - 1, s.Clock - 2, 0, -1, s.Clock - 1<<32, math.MinInt, 10000, 10001, s.Clock + 1<<32, 1<<62 + s.Clock + 1, math.MaxInt} {
				wantState(t, at, impl.TenStep(h.c, s, passed(at)), s)
			}
		}
	}
}

// Promise 55: unexpected originals change nothing.

func TestUnexpectedOriginalsChangeNothing(t *testing.T) {
	for _, h := range histories() {
		for _, s := range few(h) {
			ids := []int{-1, s.Next, s.Next + 1, math.MinInt, math.MaxInt}
			for id := range s.Next {
				if !slices.ContainsFunc(s.Jobs, func(job impl.TenJob) bool { return job.Id == id }) {
					ids = append(ids, id, id+1<<32)
				}
			}
			for _, id := range ids {
				for _, e := range []impl.TenEvent{replied(id, fileFor(7)), replied(id, nil), failed(id), {Kind: impl.EvReply, Id: id, Text: asked(h.c, "a").Text, Data: fileFor(1), At: s.Clock + 1}} {
					wantState(t, e, impl.TenStep(h.c, s, e), s)
				}
			}
		}
	}
}

func TestUnknownEventsChangeNothing(t *testing.T) {
	for _, h := range histories() {
		for _, s := range few(h) {
			id := 0
			if len(s.Jobs) > 0 {
				id = s.Jobs[0].Id
			}
			for _, kind := range []int{0, -1, -2, -3, -4, 5, 6, 8, 255, 256, 257, 260, 1<<32 + 1, 1<<32 + 4, math.MinInt, math.MaxInt} {
				e := impl.TenEvent{Kind: kind, Text: asked(h.c, "a").Text, Id: id, Data: fileFor(1), At: s.Clock + 1}
				wantState(t, e, impl.TenStep(h.c, s, e), s)
			}
		}
	}
}

// An event has no effect by the fields that its kind does not have.
func TestFurtherFieldsMakeNoDifference(t *testing.T) {
	for _, h := range histories() {
		for _, s := range few(h) {
			id := 0
			if len(s.Jobs) > 0 {
				id = s.Jobs[0].Id
			}
			text, file, at := asked(h.c, "a", turn).Text, fileFor(3), s.Clock+1
			for _, e := range []impl.TenEvent{askedText(text), replied(id, file), failed(id), passed(at)} {
				more := impl.TenEvent{Kind: e.Kind, Text: text, Id: id, Data: file, At: at}
				wantState(t, more, impl.TenStep(h.c, s, more), impl.TenStep(h.c, s, e))
			}
		}
	}
}

// Promise 56: a failed fetch is reported.

func TestFetchesAreReported(t *testing.T) {
	eachStep(t, func(s step) {
		job, found := s.job()
		if !found {
			return
		}
		rest := slices.DeleteFunc(slices.Clone(s.before.Jobs), func(other impl.TenJob) bool { return other.Id == job.Id })
		want := impl.TenOut{Id: job.Id, Code: impl.CodOrigin}
		if s.e.Kind == impl.EvReply {
			want.Data, want.Code = impl.TurnFile(s.e.Data, job.Ops)
		}
		outs := []impl.TenOut{want}
		if full(s.before) {
			outs = nil
		}
		if !sameJobs(s.after.Jobs, rest) || !sameOuts(s.outs, outs) {
			t.Fatalf("the fetch is not reported by %v alone: %v", want, s)
		}
		if want.Code != impl.CodGood {
			if !sameFiles(s.before.Files, s.after.Files) {
				t.Fatalf("files change: %v", s)
			}
			return
		}
		if last := s.after.Files[len(s.after.Files)-1]; !sameFile(last, impl.TenFile{Path: job.Path, At: s.before.Clock, Data: s.e.Data}) {
			t.Fatalf("the original is not cached: %v", s)
		}
	})
}

// Promise 57: there are ten codes.

func TestThereAreTenCodes(t *testing.T) {
	eachStep(t, func(s step) {
		for _, out := range s.outs {
			if out.Code != impl.CodGood {
				if len(out.Data) > 0 || !slices.Contains([]int{400, 403, 413, 415, 422, 429, 502, 503, 504}, out.Code) {
					t.Fatalf("%v is no response: %v", out, s)
				}
				continue
			}
			r, how := impl.FormGet(out.Data)
			if how != impl.FormGood || !bytes.Equal(impl.FormPut(r), out.Data) {
				t.Fatalf("%v has no file that FormPut writes: %v", out, s)
			}
		}
	})
}

// Promise 58: repeating a request gives the same response.

func TestRepeatedRequests(t *testing.T) {
	repeated := 0
	eachStep(t, func(s step) {
		if !s.numbered() || len(s.outs) != 1 || s.outs[0].Code != impl.CodGood || s.after.Tokens == 0 || full(s.after) {
			return
		}
		again := impl.TenStep(s.c, s.after, s.e)
		want := impl.TenOut{Id: s.after.Next, Code: impl.CodGood, Data: s.outs[0].Data}
		if !sameOut(again.Outs[len(again.Outs)-1], want) || !sameFiles(again.Files, s.after.Files) {
			t.Fatalf("repeated, it leads to %v: %v", again, s)
		}
		repeated++
	})
	if repeated < 50 {
		t.Errorf("only %d requests are repeated", repeated)
	}
}

// Promise 6: unsigned requests cost nothing.

func TestUnsignedRequestsCostNothing(t *testing.T) {
	eachStep(t, func(s step) {
		if !s.numbered() {
			return
		}
		a, code := s.request()
		if code != impl.CodGood {
			want := []impl.TenOut{{Id: s.before.Next, Code: code}}
			if full(s.before) {
				want = nil
			}
			if !unchanged(s.before, s.after) || !sameOuts(s.outs, want) || s.after.Next != s.before.Next+1 {
				t.Fatalf("an unsigned request has an effect: %v", s)
			}
			return
		}
		refused := slices.Contains(codes(s.outs), impl.CodWords) || slices.Contains(codes(s.outs), impl.CodSign)
		if refused || s.e.Text != impl.UrlText(s.c.Key, a) || s.before.Clock >= a.Till {
			t.Fatalf("%v is signed, or refused: %v", a, s)
		}
	})
}

func TestUnsignedRequestsOfAllKinds(t *testing.T) {
	c := exampleConfig()
	texts := []string{
		"", "/", "x", "cat", "/-/cat?e=9999", "/-/cat?e=9999&s=", "&s=0123456789abcdef", signed([]byte("kez"), "/-/a?e=9999"), signed(nil, "/-/a?e=9999"), signed(c.Key, "/-/a?e=20"), signed(c.Key, "/-/a?e=0"),
		signed(c.Key, "/-/a?e=10000"), signed(c.Key, "/turn,/a?e=9999"), signed(c.Key, "/-/A?e=9999"), signed(c.Key, "/-/abcdefg?e=9999"), signed(c.Key, "/-/?e=9999"), signed(c.Key, "/size.7.1/a?e=9999"),
		signed(c.Key, "/turn,turn,turn,turn,turn,turn/a?e=9999"), signed(c.Key, "/-/a?e=9999") + "0", strings.ToUpper(signed(c.Key, "/-/a?e=9999")), strings.Repeat("/", 100000), strings.Repeat("\xff", 201),
	}
	for _, tokens := range []int{0, 1, 3} {
		for _, most := range []int{2, 3} {
			c.Most = most
			s := withTokens(example(), tokens)
			for _, text := range texts {
				_, code := impl.UrlRead(c.Key, text, s.Clock)
				if code != impl.CodWords && code != impl.CodSign {
					t.Fatalf("the code of %q is %d", text, code)
				}
				want := changed(s, func(s *impl.TenState) {
					s.Outs = append(s.Outs, impl.TenOut{Id: s.Next, Code: code})
					s.Next++
				})
				wantState(t, text, impl.TenStep(c, s, askedText(text)), want)
			}
		}
	}
}

// Promise 7: a response is the transformation of a signed request applied to a fetched original.

func TestResponsesComeFromFetchedOriginals(t *testing.T) {
	type original struct {
		at   int
		data []byte
	}
	for _, h := range histories() {
		asks := map[int]impl.UrlAsk{}
		fetched := map[string][]original{}
		for k, e := range h.events {
			s := step{c: h.c, before: h.states[k], e: e, after: h.states[k+1], outs: h.states[k+1].Outs[len(h.states[k].Outs):]}
			if a, code := s.request(); s.numbered() && code == impl.CodGood {
				asks[s.before.Next] = a
			}
			if job, found := s.job(); found && e.Kind == impl.EvReply {
				fetched[job.Path] = append(fetched[job.Path], original{at: s.before.Clock, data: e.Data})
			}
			for _, out := range s.outs {
				a, signed := asks[out.Id]
				fits := func(o original) bool {
					_, how := impl.FormGet(o.data)
					data, code := impl.TurnFile(o.data, a.Ops)
					return how == impl.FormGood && code == impl.CodGood && bytes.Equal(data, out.Data) && s.after.Clock-o.at <= h.c.Ttl
				}
				if out.Code == impl.CodGood && (!signed || !slices.ContainsFunc(fetched[a.Path], fits)) {
					t.Fatalf("%v comes from no original: %v", out, s)
				}
			}
		}
	}
}

// Promise 8: no tenant exceeds its rate.

func TestNoTenantExceedsItsRate(t *testing.T) {
	for _, h := range histories() {
		paid, added := 0, 0
		for k, e := range h.events {
			s := step{c: h.c, before: h.states[k], e: e, after: h.states[k+1], outs: h.states[k+1].Outs[len(h.states[k].Outs):]}
			_, code := s.request()
			refused := slices.Contains(codes(s.outs), impl.CodTokens)
			if signed := s.numbered() && code == impl.CodGood; !full(s.before) && refused != (signed && s.before.Tokens == 0) {
				t.Fatalf("that there is no token is said: %v: %v", refused, s)
			}
			if refused && !unchanged(s.before, s.after) {
				t.Fatalf("a request without a token has an effect: %v", s)
			}
			if s.paid() {
				paid++
			}
			if e.Kind == impl.EvTime {
				added += s.after.Tokens - s.before.Tokens
			}
			// All tokens are accounted for, and there are no more of them than time can have added.
			if s.after.Tokens != h.c.Burst+added-paid || s.after.Tokens < 0 || s.after.Tokens > h.c.Burst || added > s.after.Clock/h.c.Every {
				t.Fatalf("%d requests, %d tokens are added: %v", paid, added, s)
			}
		}
	}
}

// Promise 84: time can advance in two steps.

func TestTimeCanAdvanceInTwoSteps(t *testing.T) {
	for _, h := range histories() {
		for _, s := range few(h) {
			for _, first := range []int{1, 2, h.c.Every - 1, h.c.Every, h.c.Wait - 1, h.c.Wait, h.c.Wait + 1, 100} {
				for _, second := range []int{1, 2, h.c.Every, h.c.Every + 1, h.c.Wait, 1000, 9999 - s.Clock - first} {
					one, two := s.Clock+first, s.Clock+first+second
					if first < 1 || second < 1 || two > 9999 {
						continue
					}
					wantState(t, []int{one, two}, impl.TenRun(h.c, s, []impl.TenEvent{passed(one), passed(two)}), impl.TenStep(h.c, s, passed(two)))
				}
			}
		}
	}
}

// Promise 85: tokens return.

func TestTokensReturn(t *testing.T) {
	for _, h := range histories() {
		for _, s := range few(h) {
			if s.Clock+h.c.Burst*h.c.Every > 9999 {
				continue
			}
			for s := range oneByOneLater(h.c, s) {
				if s.after.Tokens != min(s.before.Tokens+1, h.c.Burst) || s.after.Since != s.before.Since+h.c.Every {
					t.Fatalf("not just one token is added: %v", s)
				}
			}
			end := s
			for range h.c.Burst {
				end = impl.TenStep(h.c, end, passed(end.Clock+h.c.Every))
			}
			if end.Tokens != h.c.Burst {
				t.Fatalf("%d tokens are there after %v", end.Tokens, s)
			}
		}
	}
}

// oneByOneLater advances the time by Every, again and again.
func oneByOneLater(c impl.TenCfg, s impl.TenState) func(func(step) bool) {
	return func(yield func(step) bool) {
		for range c.Burst {
			e := passed(s.Clock + c.Every)
			next := impl.TenStep(c, s, e)
			if !yield(step{c: c, before: s, e: e, after: next}) {
				return
			}
			s = next
		}
	}
}

// Just at a multiple of Every, and one time unit before it.
func TestWhenTokensCome(t *testing.T) {
	for _, h := range histories() {
		for _, s := range few(h) {
			if s.Since+3*h.c.Every > 9999 {
				continue
			}
			for n := 1; n <= 3; n++ {
				next := s.Since + n*h.c.Every
				if got := impl.TenStep(h.c, s, passed(next)); got.Tokens != min(s.Tokens+n, h.c.Burst) || got.Since != next {
					t.Fatalf("at %d: %v after %v", next, got, s)
				}
				if next-1 <= s.Clock {
					continue
				}
				if got := impl.TenStep(h.c, s, passed(next-1)); got.Tokens != min(s.Tokens+n-1, h.c.Burst) || got.Since != next-h.c.Every {
					t.Fatalf("at %d: %v after %v", next-1, got, s)
				}
			}
		}
	}
}

// Promise 88: notes do not matter.

func TestNotesDoNotMatter(t *testing.T) {
	for seed, h := range histories() {
		others := slices.Clone(h.events)
		for k, e := range others {
			if _, how := impl.FormGet(e.Data); e.Kind == impl.EvReply && how == impl.FormGood {
				body := e.Data[2+e.Data[1] : len(e.Data)-4]
				others[k].Data = fileOf(e.Data[0], filled((seed+k)%10, k), body)
			}
		}
		want, got := h.end(), impl.TenRun(h.c, impl.TenNew(h.c), others)
		if len(got.Files) != len(want.Files) {
			t.Fatalf("other files are cached: %v, not %v", got, want)
		}
		for k := range got.Files {
			got.Files[k].Data = want.Files[k].Data
		}
		wantState(t, "with other notes", got, want)
	}
}

// Promise 102: whoever requests nothing receives nothing.

func TestWhoRequestsNothingReceivesNothing(t *testing.T) {
	for _, c := range configs() {
		rnd := rand.New(rand.NewPCG(3, 4))
		s := impl.TenNew(c)
		for range 120 {
			e := pick(rnd, []impl.TenEvent{passed(s.Clock + 1 + rnd.IntN(70)), passed(s.Clock), replied(rnd.IntN(3)-1, fileFor(2)), failed(rnd.IntN(3) - 1), {Kind: 7}})
			next := impl.TenStep(c, s, e)
			clock := s.Clock
			if e.Kind == impl.EvTime {
				clock = e.At
			}
			wantState(t, e, next, impl.TenState{Clock: clock, Since: clock / c.Every * c.Every, Tokens: c.Burst})
			s = next
		}
	}
}
