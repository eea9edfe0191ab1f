package ring_test

import (
	"slices"
	"testing"

	"thatch/api"
	"thatch/geom"
	"thatch/record"
	"thatch/ring"
	"thatch/zdisk"
)

// chance is a row of numbers that is the same each time.
type chance uint64

func (c *chance) below(n int) int {
	*c ^= *c << 13
	*c ^= *c >> 7
	*c ^= *c << 17
	return int(*c >> 16 % chance(n))
}

// sector is the sector of a record.
func sector(t *testing.T, r api.Record) []byte {
	t.Helper()
	b, e := record.Encode(r)
	if e != api.OK {
		t.Fatal(e)
	}
	return b
}

// lay writes a record where one of its number stands.
func lay(t *testing.T, d *zdisk.Disk, g api.Geom, r api.Record) {
	t.Helper()
	if e := d.Write(geom.RingAt(g, r.Seq), sector(t, r)); e != api.OK {
		t.Fatal(e)
	}
}

// laid is a disk with these records in its ring, and what it answers to Find.
func laid(t *testing.T, l ...api.Record) *zdisk.Disk {
	t.Helper()
	d := disk(t, example)
	for _, r := range l {
		lay(t, d, example, r)
	}
	return d
}

// of is a record of epoch 3, and Upto 6.
func of(seq int, commit bool, n int) api.Record {
	return api.Record{Epoch: 3, Seq: seq, Commit: commit, Upto: 6, Deltas: holes(seq, n)}
}

// P10.2: what ends what is found.
func TestFindEnd(t *testing.T) {
	one, two := of(20, true, 4), of(21, false, 6)
	two.Upto = 9
	three := of(22, true, 1)
	three.Upto = 9
	only := [][]api.Delta{holes(20, 4)}
	both := append(slices.Clone(only), append(holes(21, 6), holes(22, 1)...))
	wantFind(t, "two groups", laid(t, one, two, three), example, 3, 20, both, 9, 23, api.OK)
	wantFind(t, "from the second one on", laid(t, one, two, three), example, 3, 21, both[1:], 9, 23, api.OK)
	wantFind(t, "from within it on", laid(t, one, two, three), example, 3, 22, [][]api.Delta{holes(22, 1)}, 9, 23, api.OK)
	wantFind(t, "from behind it on", laid(t, one, two, three), example, 3, 23, nil, -1, 23, api.OK)
	wantFind(t, "from ahead of it on", laid(t, one, two, three), example, 3, 19, nil, -1, 19, api.OK)
	wantFind(t, "no end", laid(t, one, two), example, 3, 20, only, 6, 21, api.OK)
	wantFind(t, "no middle", laid(t, one, three), example, 3, 20, only, 6, 21, api.OK)
	wantFind(t, "no beginning", laid(t, two, three), example, 3, 20, nil, -1, 20, api.OK)
	change := func(r api.Record, change func(r *api.Record)) api.Record {
		change(&r)
		return r
	}
	// What is right, but not joined, is an end; what is behind it is let go.
	four := of(23, true, 2)
	for what, r := range map[string]api.Record{
		"another Upto":   change(two, func(r *api.Record) { r.Upto = 8 }),
		"too few deltas": change(two, func(r *api.Record) { r.Deltas = holes(21, 5) }),
	} {
		wantFind(t, what, laid(t, one, r, three, four), example, 3, 20, only, 6, 21, api.OK)
		wantFind(t, what, laid(t, change(one, func(r *api.Record) { r.Commit = false }), r, three, four), example, 3, 20, nil, -1, 20, api.OK)
	}
	// A record that is not right.
	for what, r := range map[string]api.Record{
		"another epoch":   change(two, func(r *api.Record) { r.Epoch = 4 }),
		"a younger epoch": change(two, func(r *api.Record) { r.Epoch = 2 }),
		"a round ahead":   change(two, func(r *api.Record) { r.Seq -= 16 }),
		"a round behind":  change(two, func(r *api.Record) { r.Seq += 16 }),
	} {
		wantFind(t, what, laid(t, one, r, three, four), example, 3, 20, only, 6, 21, api.OK)
	}
	d := laid(t, one, two, three)
	broken := sector(t, two)
	broken[50] ^= 1
	d.Write(geom.RingAt(example, 21), broken)
	wantFind(t, "a broken one", d, example, 3, 20, only, 6, 21, api.OK)
	d.Write(geom.RingAt(example, 21), sector(t, of(20, false, 6)))
	wantFind(t, "one that stands elsewhere", d, example, 3, 20, only, 6, 21, api.OK)
}

// P10.2: groups without deltas, and Upto that falls.
func TestFindEmpty(t *testing.T) {
	d := disk(t, example)
	r := made(t, d, example, 3, 15)
	var want [][]api.Delta
	for _, upto := range []int{8, 5, 0} {
		wantAppend(t, "nothing", r, nil, upto, 1, api.OK)
		want = append(want, nil)
		wantFind(t, "nothing", d, example, 3, 15, want, upto, r.Next(), api.OK)
	}
}

// P10.2: it is no more read than the ring has, sector by sector, up to the end.
func TestFindReads(t *testing.T) {
	d := disk(t, example)
	r := made(t, d, example, 3, 21)
	for used := range 17 {
		before := given(d, api.CmdRead)
		wantFind(t, "groups of one", d, example, 3, 21, slices.Repeat([][]api.Delta{holes(1, 6)}, used), used-1, 21+used, api.OK)
		cmds := slices.Collect(d.Cmds())
		cmds = cmds[len(cmds)-given(d, api.CmdRead)+before:]
		if len(cmds) != min(used+1, 16) {
			t.Errorf("%d reads of %d records", len(cmds), used)
		}
		for i, c := range cmds {
			if c.Kind != api.CmdRead || c.N != 1 || c.At != geom.RingAt(example, 21+i) {
				t.Errorf("read %d: %v", i, c)
			}
		}
		if used < 16 {
			wantAppend(t, "one", r, holes(1, 6), used, 1, api.OK)
		}
	}
	// A ring full of records without a Commit.
	d = disk(t, small)
	for i := range 8 {
		lay(t, d, small, api.Record{Epoch: 3, Seq: 5 + i, Deltas: holes(0, 6)})
	}
	wantFind(t, "no Commit", d, small, 3, 5, nil, -1, 5, api.OK)
	if n := given(d, api.CmdRead); n != 8 {
		t.Errorf("%d reads of a full ring", n)
	}
}

// P10.2: sectors that can not be read.
func TestFindMedia(t *testing.T) {
	d := disk(t, example)
	r := made(t, d, example, 3, 30)
	groups := [][]api.Delta{holes(0, 3), holes(1, 13), holes(2, 7)}
	for i, l := range groups {
		wantAppend(t, "a group", r, l, 10+i, record.Needs(len(l)), api.OK)
	}
	ends := []int{30, 31, 34, 36}
	for n := 30; n < 46; n++ {
		f := d.Fork()
		f.Spoil(geom.RingAt(example, n))
		found := 0
		for found < 3 && n >= ends[found+1] {
			found++
		}
		upto, want := 9+found, api.ErrMedia
		if found == 0 {
			upto = -1
		}
		if n > 36 {
			want = api.OK // It is not read.
		}
		wantFind(t, "a spoiled sector", f, example, 3, 30, groups[:found], upto, ends[found], want)
	}
	// Behind a group that is not joined nothing is read any more.
	f := laid(t, of(20, true, 1), of(21, false, 5), of(22, true, 1))
	f.Spoil(geom.RingAt(example, 23))
	wantFind(t, "behind the end", f, example, 3, 20, [][]api.Delta{holes(20, 1)}, 6, 21, api.OK)
	f.Spoil(geom.RingAt(example, 22))
	wantFind(t, "ahead of the Commit", f, example, 3, 20, [][]api.Delta{holes(20, 1)}, 6, 21, api.ErrMedia)

	// The whole ring stands in zone 1.
	f = d.Fork()
	f.Hurt(1, api.ZoneReadOnly)
	wantFind(t, "a read-only zone", f, example, 3, 30, groups, 12, 36, api.OK)
	f.Hurt(1, api.ZoneOffline)
	wantFind(t, "an offline zone", f, example, 3, 30, nil, -1, 30, api.ErrMedia)
	f = d.Fork()
	f.Stop(0)
	wantFind(t, "no power", f, example, 3, 30, nil, -1, 30, api.ErrMedia)
	wantFind(t, "no power", f, example, 0, 30, nil, 0, 0, api.ErrArg)
}

// plainFind is what is to be found, as the chapter tells of it: first all that
// is right, then groups of it.
func plainFind(at map[int]api.Record, epoch, first, room int) ([][]api.Delta, int, int) {
	var right []api.Record
	for i := range room {
		r, is := at[(first+i)%room]
		if !is || r.Epoch != epoch || r.Seq != first+i {
			break
		}
		right = append(right, r)
	}
	var groups [][]api.Delta
	upto, next := -1, first
	for {
		i := slices.IndexFunc(right, func(r api.Record) bool { return r.Commit })
		if i < 0 {
			return groups, upto, next
		}
		l, joined := record.Join(right[:i+1])
		if !joined {
			return groups, upto, next
		}
		groups, upto, next = append(groups, l), right[i].Upto, next+i+1
		right = right[i+1:]
	}
}

// P10.2: rings of any records, held against a plain finder.
func TestFindAny(t *testing.T) {
	c := chance(88172645463325252)
	most := 0
	for range 3000 {
		d := disk(t, example)
		at := map[int]api.Record{}
		first := c.below(60)
		upto, commit := 5, false
		for i := range c.below(17) {
			if commit {
				upto += c.below(2)
			}
			commit = c.below(2) == 0
			r := api.Record{Epoch: 3, Seq: first + i, Commit: commit, Upto: upto, Deltas: holes(i, 6)}
			if commit {
				r.Deltas = holes(i, c.below(7))
			}
			switch c.below(40) {
			case 0:
				r.Epoch = 2 + c.below(3)
			case 1:
				r.Seq = max(r.Seq+16*(c.below(3)-1), 0)
			case 2:
				r.Upto++
			case 3:
				r.Deltas = holes(i, c.below(7))
			}
			at[r.Seq%16] = r
			lay(t, d, example, r)
		}
		groups, upto, next := plainFind(at, 3, first, 16)
		most = max(most, len(groups))
		wantFind(t, "any records", d, example, 3, first, groups, upto, next, api.OK)
	}
	if most < 5 {
		t.Error("never more than", most, "groups")
	}
}

// keepAny names some of the ring's sectors, each with some content.
func keepAny(c *chance, g api.Geom, room int) []api.Keep {
	var keep []api.Keep
	for i := range room {
		if c.below(3) > 0 {
			keep = append(keep, api.Keep{Sector: geom.RingAt(g, i), Back: c.below(3)})
		}
	}
	return keep
}

// P10.3: what was flushed is found behind a crash, and of what was appended
// behind that some groups, from the first one on; nothing of another epoch.
func TestCrash(t *testing.T) {
	c := chance(2463534242)
	partly := 0
	for round := range 2000 {
		d := disk(t, example)
		first := 0
		for epoch := 1; epoch < 4; epoch++ {
			r := made(t, d, example, epoch, first)
			var groups [][]api.Delta
			ends := []int{first}
			sure := 0
			for range c.below(8) {
				l := holes(1000*epoch+round, c.below(20))
				if _, e := r.Append(l, len(groups)); e != api.OK {
					break
				}
				groups, ends = append(groups, l), append(ends, r.Next())
				if c.below(3) == 0 {
					d.Flush()
					sure = len(groups)
				}
			}
			d.Crash(keepAny(&c, example, 16), nil)
			got, upto, next, e := ring.Find(d, example, epoch, first)
			n := len(got)
			if e != api.OK || n < sure || n > len(groups) || !slices.EqualFunc(got, groups[:n], slices.Equal[[]api.Delta]) || upto != n-1 || next != ends[n] {
				t.Fatalf("epoch %d: %d groups of %d, %d of them sure, %d, %d, %d", epoch, n, len(groups), sure, upto, next, e)
			}
			if sure < n && n < len(groups) {
				partly++
			}
			for other := 1; other < 6; other++ {
				if other > epoch {
					wantFind(t, "an epoch that there was not", d, example, other, first, nil, -1, first, api.OK)
				}
			}
			// The next epoch goes on behind what was found, or anew over it.
			first = next - c.below(2)*min(next, 16)
		}
	}
	if partly < 20 {
		t.Error("hardly ever is some of what was unsure found:", partly)
	}
}

// P10.3: an epoch over another one, with the same numbers.
func TestEpochs(t *testing.T) {
	d := disk(t, example)
	old := made(t, d, example, 8, 30)
	wantAppend(t, "the old one", old, holes(0, 90), 4, 15, api.OK)
	d.Flush()
	young := made(t, d, example, 9, 30)
	wantFind(t, "nothing yet", d, example, 9, 30, nil, -1, 30, api.OK)
	wantAppend(t, "the young one", young, holes(5, 7), 5, 2, api.OK)
	wantFind(t, "the young one", d, example, 9, 30, [][]api.Delta{holes(5, 7)}, 5, 32, api.OK)
	wantFind(t, "the old one", d, example, 8, 30, nil, -1, 30, api.OK)
	wantFind(t, "the old one's end", d, example, 8, 32, [][]api.Delta{holes(0, 90)[12:]}, 4, 45, api.OK)
}
