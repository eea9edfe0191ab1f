package rig_test

import (
	"fmt"
	"math"
	"regexp"
	"slices"
	"strconv"
	"strings"
	"testing"

	"thatch/api"
	"thatch/rig"
)

// lines are acts, and their lines.
var lines = []struct {
	a    api.Act
	line string
}{
	{api.Act{Kind: api.ActWrite, At: 4, N: 3, B: 9}, "write 4 3 9"},
	{api.Act{Kind: api.ActWrite}, "write 0 0 0"},
	{api.Act{Kind: api.ActWrite, At: -4, N: -30, B: 255}, "write -4 -30 255"},
	{api.Act{Kind: api.ActForce, At: 100, N: 1, B: 10}, "force 100 1 10"},
	{api.Act{Kind: api.ActForce, At: math.MaxInt, N: math.MinInt, B: 1}, "force 9223372036854775807 -9223372036854775808 1"},
	{api.Act{Kind: api.ActRead, At: 7, N: 33}, "read 7 33"},
	{api.Act{Kind: api.ActRead, At: -1}, "read -1 0"},
	{api.Act{Kind: api.ActDiscard, At: 0, N: 5}, "discard 0 5"},
	{api.Act{Kind: api.ActFlush}, "flush"},
	{api.Act{Kind: api.ActStep, N: 17}, "step 17"},
	{api.Act{Kind: api.ActPolicy, N: 2}, "policy 2"},
	{api.Act{Kind: api.ActPolicy, N: -2}, "policy -2"},
	{api.Act{Kind: api.ActCrash}, "crash"},
	{api.Act{Kind: api.ActCrash, Keep: []api.Keep{{Sector: 3, Back: 1}}}, "crash keep 3 1"},
	{api.Act{Kind: api.ActCrash, Keep: []api.Keep{{Sector: 3}, {Sector: -9, Back: -1}, {Sector: 3, Back: 2}}}, "crash keep 3 0 -9 -1 3 2"},
	{api.Act{Kind: api.ActCrash, Prefix: []int{0}}, "crash prefix 0"},
	{api.Act{Kind: api.ActCrash, Prefix: []int{3, -7, 1, 12}}, "crash prefix 3 -7 1 12"},
	{api.Act{Kind: api.ActCrash, Keep: []api.Keep{{Sector: 10, Back: 20}}, Prefix: []int{30, 40}}, "crash keep 10 20 prefix 30 40"},
	{api.Act{Kind: api.ActMount}, "mount"},
	{api.Act{Kind: api.ActUnmount}, "unmount"},
	{api.Act{Kind: api.ActStop, N: 0}, "stop 0"},
	{api.Act{Kind: api.ActStop, N: -1}, "stop -1"},
	{api.Act{Kind: api.ActFail, N: 3}, "fail 3"},
	{api.Act{Kind: api.ActHurt, Zone: 5, N: 6}, "hurt 5 6"},
	{api.Act{Kind: api.ActSpoil, At: 90}, "spoil 90"},
}

// same tells whether two acts are the same; nil and the empty list are.
func same(a, b api.Act) bool {
	return a.Kind == b.Kind && a.At == b.At && a.N == b.N && a.B == b.B && a.Zone == b.Zone &&
		slices.Equal(a.Keep, b.Keep) && slices.Equal(a.Prefix, b.Prefix)
}

// printed wants a text of acts.
func printed(t *testing.T, l []api.Act, want string, code api.Errno) {
	t.Helper()
	if got, e := rig.Print(l); got != want || e != code {
		t.Errorf("%v: %q %d, not %q %d", l, got, e, want, code)
	}
}

// parsed wants acts of a text.
func parsed(t *testing.T, text string, want []api.Act, at int, code api.Errno) {
	t.Helper()
	if got, i, e := rig.Parse(text); !slices.EqualFunc(got, want, same) || i != at || e != code {
		t.Errorf("%q: %v %d %d, not %v %d %d", text, got, i, e, want, at, code)
	}
}

// P26.4: each kind's lines, by themselves and together.
func TestLines(t *testing.T) {
	var all []api.Act
	var text string
	for _, x := range lines {
		printed(t, []api.Act{x.a}, x.line+"\n", api.OK)
		parsed(t, x.line+"\n", []api.Act{x.a}, 0, api.OK)
		// A last line without a newline is none.
		parsed(t, x.line, nil, 0, api.ErrText)
		all = append(all, x.a)
		text += x.line + "\n"
	}
	printed(t, all, text, api.OK)
	parsed(t, text, all, 0, api.OK)
	printed(t, nil, "", api.OK)
	printed(t, []api.Act{}, "", api.OK)
	parsed(t, "", nil, 0, api.OK)
	// An empty list is none.
	printed(t, []api.Act{{Kind: api.ActFlush, Keep: []api.Keep{}, Prefix: []int{}}}, "flush\n", api.OK)
	printed(t, []api.Act{{Kind: api.ActCrash, Keep: []api.Keep{}, Prefix: []int{}}}, "crash\n", api.OK)
}

// P26.4: all numbers about the edges of what is written of them.
func TestLineNumbers(t *testing.T) {
	for _, n := range []int{math.MinInt, math.MinInt + 1, -1 << 40, -100, -99, -10, -9, -1, 0, 1, 9, 10, 11, 99, 100, 101, 255, 256, 1 << 40, math.MaxInt - 1, math.MaxInt} {
		word := fmt.Sprintf("%d", n)
		a := api.Act{Kind: api.ActHurt, Zone: n, N: n}
		printed(t, []api.Act{a}, "hurt "+word+" "+word+"\n", api.OK)
		parsed(t, "hurt "+word+" "+word+"\n", []api.Act{a}, 0, api.OK)
		a = api.Act{Kind: api.ActCrash, Keep: []api.Keep{{Sector: n, Back: n}}, Prefix: []int{n, n, n}}
		parsed(t, "crash keep "+word+" "+word+" prefix "+word+" "+word+" "+word+"\n", []api.Act{a}, 0, api.OK)
		if n < 0 || n > 255 {
			parsed(t, "write 1 1 "+word+"\n", nil, 0, api.ErrText)
		} else {
			parsed(t, "write 1 1 "+word+"\n", []api.Act{{Kind: api.ActWrite, At: 1, N: 1, B: byte(n)}}, 0, api.OK)
		}
	}
	for b := range 256 {
		printed(t, []api.Act{{Kind: api.ActForce, B: byte(b)}}, "force 0 0 "+strconv.Itoa(b)+"\n", api.OK)
	}
}

// P26.4: acts of no kind, and fields that a line does not have.
func TestPrintRefused(t *testing.T) {
	for _, kind := range []int{math.MinInt, -1, 0, 15, 99, math.MaxInt} {
		printed(t, []api.Act{{Kind: kind}}, "", api.ErrArg)
		printed(t, []api.Act{{Kind: api.ActFlush}, {Kind: kind}, {Kind: api.ActFlush}}, "", api.ErrArg)
	}
	// Which fields each kind's line has.
	fields := map[int]string{
		api.ActWrite: "anb", api.ActForce: "anb", api.ActRead: "an", api.ActDiscard: "an", api.ActFlush: "", api.ActStep: "n", api.ActPolicy: "n",
		api.ActCrash: "kp", api.ActMount: "", api.ActUnmount: "", api.ActStop: "n", api.ActFail: "n", api.ActHurt: "zn", api.ActSpoil: "a",
	}
	sets := map[string]func(a *api.Act){
		"a": func(a *api.Act) { a.At = 1 },
		"n": func(a *api.Act) { a.N = -1 },
		"b": func(a *api.Act) { a.B = 1 },
		"z": func(a *api.Act) { a.Zone = 1 },
		"k": func(a *api.Act) { a.Keep = []api.Keep{{}} },
		"p": func(a *api.Act) { a.Prefix = []int{0} },
	}
	for kind, has := range fields {
		for letter, set := range sets {
			a := api.Act{Kind: kind}
			set(&a)
			text, e := rig.Print([]api.Act{a})
			if is := strings.Contains(has, letter); is != (e == api.OK) || is != (text != "") || !is && e != api.ErrArg {
				t.Errorf("%v: %q %d", a, text, e)
			}
			printed(t, []api.Act{{Kind: api.ActMount}, a, a}[:1], "mount\n", api.OK)
		}
	}
}

// P26.4: lines that are no act's.
func TestParseRefused(t *testing.T) {
	for _, line := range []string{
		"", " ", "  ", "\t", "\r", "x", "writes 1 1 1", "Write 1 1 1", "WRITE 1 1 1", "writ 1 1 1", "write1 1 1", "1 1 1 write",
		"write", "write 1", "write 1 1", "write 1 1 1 1", "write 1 1 1 ", " write 1 1 1", "write  1 1 1", "write 1  1 1", "write 1 1  1", "write\t1 1 1", "write 1 1\t1", "write 1 1 1\t", "write 1 1 1\r",
		"write 1,1,1", "write 1 1 x", "write x 1 1", "write 1 1 256", "write 1 1 -1", "write 1 1 1000000000000", "write 1 1 01", "write 1 1 +1", "write 1 1 -0",
		"write +1 1 1", "write 01 1 1", "write -0 1 1", "write -01 1 1", "write 00 1 1", "write -00 1 1", "write +0 1 1", "write - 1 1", "write + 1 1", "write --1 1 1", "write 1- 1 1", "write 0x1 1 1", "write 1_0 1 1", "write 1.0 1 1", "write 1e1 1 1", "write 0b1 1 1", "write 0o7 1 1",
		"write 9223372036854775808 1 1", "write -9223372036854775809 1 1", "write 18446744073709551616 1 1", "write 18446744073709551617 1 1", "write 99999999999999999999999999 1 1",
		"write ١ 1 1", "write １ 1 1", "write 1\u00a01 1", "write\u30001 1 1", "write 1 1 1\x00", "write 1 1 \xff", "\xffwrite 1 1 1", "\xef\xbb\xbfwrite 1 1 1", "write 1 1 1\u2028",
		"force", "force 1 1", "force 1 1 256", "force 1 1 1 1", "read", "read 1", "read 1 1 1", "read 1 ", "discard 1", "discard 1 1 1", "discard  1 1",
		"flush 1", "flush ", " flush", "flush 0", "step", "step 1 1", "step ", "step x", "policy", "policy 1 1", "policy fifo", "mount 1", "mount ", "mount mount", "unmount 0", "unmount ", "umount",
		"stop", "stop 1 1", "stop -0", "fail", "fail 1 1", "fail 1 ", "hurt", "hurt 1", "hurt 1 1 1", "hurt 1 read-only", "spoil", "spoil 1 1", "spoil ",
		"crash ", "crash 1", "crash 1 2", "crash keep", "crash keep ", "crash keep 1", "crash keep 1 2 3", "crash keep 1 2 ", "crash keep  1 2", "crash  keep 1 2", "crash prefix", "crash prefix ", "crash  prefix 1", "crash prefix 1 ", "crash prefix  1", "crash prefix 1  1",
		"crash keep prefix 1", "crash keep 1 prefix 1", "crash keep 1 2 prefix", "crash keep 1 2 prefix ", "crash keep 1 2 3 prefix 1", "crash prefix 1 keep 1 2", "crash keep 1 2 keep 1 2", "crash prefix 1 prefix 1", "crash prefix 1 2 keep", "crash keep 1 2 prefix 1 x",
		"crash keep 1 02", "crash keep x 1", "crash keep 1 2 x", "crash prefix x", "crash prefix 1 +1", "crash Keep 1 2", "crash keep 1 2 Prefix 1", "crash keep1 2", "crash keep 1 9223372036854775808", "crash prefix 9223372036854775808",
		"flush\r", "keep 1 2", "prefix 1", "keep", "prefix", "#", "# flush", "flush # x", "flush;", "flush flush",
	} {
		parsed(t, line+"\n", nil, 0, api.ErrText)
		parsed(t, line+"\nflush\n", nil, 0, api.ErrText)
		parsed(t, "flush\n"+line+"\n", nil, 1, api.ErrText)
		parsed(t, "flush\nmount\nstep 5\n"+line+"\nread 3 4\n"+line+"\n", nil, 3, api.ErrText)
	}
	// Empty lines, ends without a newline.
	parsed(t, "\n", nil, 0, api.ErrText)
	parsed(t, "flush\n\n", nil, 1, api.ErrText)
	parsed(t, "flush\n\nflush\n", nil, 1, api.ErrText)
	parsed(t, "flush\nmount", nil, 1, api.ErrText)
	parsed(t, "flush\nmount\nf", nil, 2, api.ErrText)
	parsed(t, "flush\nmount\n ", nil, 2, api.ErrText)
	parsed(t, "flush\r\n", nil, 0, api.ErrText)
	parsed(t, "x", nil, 0, api.ErrText)
}

// P26.4: a thousand acts are printed and parsed, more are not; a line that is none
// is told ahead of that.
func TestMany(t *testing.T) {
	many := func(n int) ([]api.Act, string) {
		return slices.Repeat([]api.Act{{Kind: api.ActStep, N: 3}}, n), strings.Repeat("step 3\n", n)
	}
	for _, n := range []int{999, 1000} {
		l, text := many(n)
		printed(t, l, text, api.OK)
		parsed(t, text, l, 0, api.OK)
		parsed(t, text+"x\n", nil, n, api.ErrText)
		printed(t, append(l[:n-1:n-1], api.Act{Kind: api.ActStep, At: 1}), "", api.ErrArg)
	}
	for _, n := range []int{1001, 1002, 5000} {
		l, text := many(n)
		printed(t, l, "", api.ErrLong)
		l[0] = api.Act{}
		printed(t, l, "", api.ErrLong)
		parsed(t, text, nil, 0, api.ErrLong)
		parsed(t, text+"step 3", nil, n, api.ErrText)
		parsed(t, text+"\n", nil, n, api.ErrText)
		parsed(t, text+"step 03\n"+text, nil, n, api.ErrText)
		parsed(t, "step\n"+text, nil, 0, api.ErrText)
	}
}

// A line, as a pattern has it; whether its numbers are not too great is asked by
// themselves.
var pattern = regexp.MustCompile(`^((write|force)( N){3}|(read|discard|hurt)( N){2}|(step|policy|stop|fail|spoil)( N)|flush|mount|unmount|crash( keep( N N)+)?( prefix( N)+)?)$`)

var aNumber = regexp.MustCompile(` (-?[1-9][0-9]*|0)\b`)

// plainIs tells whether a line is an act's.
func plainIs(line string) bool {
	if strings.Contains(line, "N") {
		return false
	}
	numbers := aNumber.FindAllString(line, -1)
	if !pattern.MatchString(aNumber.ReplaceAllString(line, " N")) {
		return false
	}
	for i, word := range numbers {
		n, e := strconv.ParseInt(word[1:], 10, 64)
		byteOf := i == 2 && (strings.HasPrefix(line, "write") || strings.HasPrefix(line, "force"))
		if e != nil || byteOf && (n < 0 || n > 255) {
			return false
		}
	}
	return true
}

// P26.4: lines that are nearly an act's; what is parsed is printed likewise.
func TestAnyLines(t *testing.T) {
	pieces := []string{" ", "  ", "0", "-", "1", "5", "00", "+", " 0", " -1", " 7", " keep", " prefix", "keep", " 256", "x", "\t", "\r", " 9223372036854775807", "8", "é", "\xff"}
	is := map[bool]int{}
	for seed := range uint64(60000) {
		number := numbers(seed)
		line := lines[number(len(lines))].line
		for range number(4) {
			from := number(len(line) + 1)
			to := min(len(line), from+number(2)*number(5))
			line = line[:from] + pieces[number(len(pieces))] + line[to:]
		}
		want := plainIs(line)
		is[want]++
		l, at, e := rig.Parse("flush\n" + line + "\n")
		if want != (e == api.OK) {
			t.Fatalf("%q is an act's line: %t", line, !want)
		}
		if !want {
			if len(l) != 0 || at != 1 || e != api.ErrText {
				t.Fatalf("%q: %v %d %d", line, l, at, e)
			}
			continue
		}
		if text, e := rig.Print(l); text != "flush\n"+line+"\n" || e != api.OK || len(l) != 2 {
			t.Fatalf("%q: %v is printed as %q, %d", line, l, text, e)
		}
	}
	if is[true] < 10000 || is[false] < 10000 {
		t.Error(is)
	}
}

// P26.4, R3: what is printed is parsed likewise; lists share nothing.
func TestRound(t *testing.T) {
	for seed := range uint64(500) {
		number := numbers(seed)
		var l []api.Act
		for range number(12) {
			l = append(l, anyAct(small4()[number(4)], number, 150, 200, 50))
		}
		text, e := rig.Print(l)
		if e != api.OK {
			t.Fatal(l, e)
		}
		one, _, e := rig.Parse(text)
		if e != api.OK || !slices.EqualFunc(one, l, same) {
			t.Fatalf("%q: %v, not %v, %d", text, one, l, e)
		}
		for i := range one {
			one[i].Keep = append(one[i].Keep, api.Keep{Sector: 1000})
			one[i].Prefix = append(one[i].Prefix, 1000)
			clear(one[i].Keep[:cap(one[i].Keep)])
			clear(one[i].Prefix[:cap(one[i].Prefix)])
			for k := range one {
				if k > i && !same(one[k], l[k]) {
					t.Fatal("shared")
				}
			}
		}
		parsed(t, text, l, 0, api.OK)
	}
}
