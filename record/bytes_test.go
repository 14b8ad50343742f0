package record_test

import (
	"encoding/binary"
	"reflect"
	"strings"
	"testing"

	"bolide/api"
	"bolide/record"
)

// bytesOf are the bytes of numbers, behind the mark.
func bytesOf(l ...int64) string {
	k := ink("bol1")
	k.put(l...)
	return string(k)
}

// exampleNumbers are the numbers of the file F of the chapter's examples.
func exampleNumbers() []int64 {
	return []int64{
		1, 0, 10, 1, 0, 0, // the bodies
		0,          // Home
		1, 1, 0, 0, // the stations
		0,             // the catalogs
		0, 0, 0, 0, 0, // the drift
		0,                              // Tick
		2,                              // the set
		100, 100, 0, 0, -10, -10, 0, 0, // its first box
		100, 100, 40, 40, -10, -10, 0, 0,
		0, // the entries
	}
}

// fullNumbers are the numbers of the full file.
func fullNumbers() []int64 {
	return []int64{
		2, 1000, 3, 1, 7, 5, 10, 10, 3, 100, 0, 90, -10, 80, 0,
		1,
		2, 1, 0, 0, 4, 3, -2,
		2, 1, 0, 0, 3, -100000, 50000,
		1, 2, -3, 4, 5,
		20,
		2, -400, -390, 11, 12, 15, 16, -2, -1, 500, 500, 40, 40, -30, -30, 1, 1,
		10,
		1, 20, 0, 1, 1, 3, 20, -3, 4, 400000, -5, -6,
		2, 21, 0, 3, 5, -7, -6, 2,
		1, 21, 1, 2, 1, 0, 21, 0, 0, 0, 12, 1 << 20,
		4, 22, 0, 30, 4, 7, 5, 1,
		4, 23, 1, 400, 2, 4, 3, 2,
		3, 23, 0, 0,
		3, 24, 1, 2,
		2, 25, 1, 8, 9, 10, 11, 12,
		1, 25, 1, 3, 4, 1, 22, 7, -8, 9, -10, 11,
		4, 420, 0, 1, 5, 0, 0, 0,
	}
}

func TestP10_4Write(t *testing.T) {
	if b, e := record.Write(example()); b != bytesOf(exampleNumbers()...) || len(b) != 292 || e != api.OK {
		t.Errorf("%x %v", b, e)
	}
	if b, e := record.Write(full()); b != bytesOf(fullNumbers()...) || e != api.OK {
		t.Errorf("%x %v", b, e)
	}
	b, _ := record.Write(full())
	if b[:4] != "bol1" || b[4:12] != "\x00\x00\x00\x00\x00\x00\x00\x02" || b[12:20] != "\x00\x00\x00\x00\x00\x00\x03\xe8" {
		t.Errorf("big-endian %x", b[:20])
	}
	if i := 4 + 8*12; b[i:i+8] != "\xff\xff\xff\xff\xff\xff\xff\xf6" { // -10
		t.Errorf("two's complement %x", b[i:i+8])
	}
	d := draw(104)
	for range 2000 {
		f := d.story(20).f
		if b, e := record.Write(f); b != modelBytes(f) || b != modelBytes(written(f)) || e != api.OK {
			t.Fatalf("%v %x %v", f, b, e)
		}
	}
}

func TestP10_4Read(t *testing.T) {
	if f, e := record.Read(bytesOf(exampleNumbers()...)); !record.Same(f, example()) || e != api.OK {
		t.Error(f, e)
	}
	f, e := record.Read(bytesOf(fullNumbers()...))
	if !record.Same(f, written(full())) || e != api.OK {
		t.Error(f, e)
	}
	want := full()
	want.Entries[0].Drift, want.Entries[0].Back, want.Entries[0].Ahead, want.Entries[0].Outcome = windy(), 3, 4, lost()
	want.Entries[5].Sight, want.Entries[1].Outcome, want.Entries[3].Back = distance(1, 2, 3), lost(), 2
	b, e := record.Write(want)
	if f, g := record.Read(b); !record.Same(f, full()) || e != api.OK || g != api.OK {
		t.Error("parts that are not written", f, e, g)
	}
}

// TestP10_4Form has strings that are not built as bytes are.
func TestP10_4Form(t *testing.T) {
	b := bytesOf(fullNumbers()...)
	for n := range len(b) {
		if f, e := record.Read(b[:n]); e != api.ErrForm || !reflect.DeepEqual(f, api.File{}) {
			t.Fatal("cut", n, e)
		}
	}
	for _, s := range []string{
		"", "bol1", "bol", "bol2" + b[4:], "Bol1" + b[4:], " " + b, b[4:], b + "\x00", b + strings.Repeat("\x00", 8), b + b, b[:4] + "\x00" + b[4:], strings.Repeat("\xff", 400),
	} {
		if f, e := record.Read(s); e != api.ErrForm || !reflect.DeepEqual(f, api.File{}) {
			t.Errorf("%x %v", s, e)
		}
	}
}

// TestP10_4Numbers changes one number of the full file.
func TestP10_4Numbers(t *testing.T) {
	const (
		bodies, track, stations, catalogs, set, entries = 0, 3, 16, 23, 36, 53
		flag, kind, seen, exercise                      = 56, 54, 57, 76
		home, version, back                             = 15, 24, 105
	)
	for i, c := range []struct {
		at int
		n  int64
		e  api.Errno
	}{
		{bodies, -1, api.ErrForm}, {bodies, least, api.ErrForm}, {bodies, 5001, api.ErrForm}, {bodies, most, api.ErrForm}, {bodies, 5000, api.ErrForm}, {bodies, 0, api.ErrForm}, {bodies, 1, api.ErrForm},
		{track, -1, api.ErrForm}, {track, 5001, api.ErrForm}, {track, 2, api.ErrForm}, {track, most, api.ErrForm},
		{stations, -1, api.ErrForm}, {stations, 1, api.ErrForm}, {catalogs, -1, api.ErrForm}, {catalogs, 3, api.ErrForm},
		{set, -1, api.ErrForm}, {set, 1, api.ErrForm}, {set, 5001, api.ErrForm}, {entries, -1, api.ErrForm}, {entries, 9, api.ErrForm}, {entries, 11, api.ErrForm}, {entries, 5001, api.ErrForm},
		{flag, 2, api.ErrForm}, {flag, -1, api.ErrForm}, {flag, 256, api.ErrForm}, {flag, least, api.ErrForm}, {flag, 1 << 32, api.ErrForm}, {exercise, 2, api.ErrForm},
		{kind, 0, api.ErrForm}, {kind, 5, api.ErrForm}, {kind, -1, api.ErrForm}, {kind, most, api.ErrForm}, {kind, 2, api.ErrForm}, {kind, 1 + 1<<32, api.ErrForm},
		{seen, 0, api.ErrKind}, {seen, 4, api.ErrKind}, {seen, least, api.ErrKind},
		{home, 2, api.ErrMissing}, {home, most, api.ErrMissing}, {home, least, api.ErrMissing}, {home, 0, api.OK},
		{version, 0, api.ErrOrder}, {version, least, api.ErrOrder}, {version, most, api.ErrOrder},
		{back, most, api.ErrMissing}, {back, least, api.ErrMissing}, {back, 1, api.OK}, {back, 3, api.ErrMissing},
	} {
		l := fullNumbers()
		l[c.at] = c.n
		f, e := record.Read(bytesOf(l...))
		if e != c.e || e != api.OK && !reflect.DeepEqual(f, api.File{}) {
			t.Error(i, c, e)
		}
	}
	l := fullNumbers()
	l[home], l[len(l)-1] = 9, 600
	if _, e := record.Read(bytesOf(l...)); e != api.ErrMissing {
		t.Error(e)
	}
	if _, e := record.Read(bytesOf(append(l, 0)...)); e != api.ErrForm {
		t.Error("ErrForm comes first", e)
	}
	if _, e := record.Read(bytesOf(l[:len(l)-1]...)); e != api.ErrForm {
		t.Error("ErrForm comes first", e)
	}
}

// TestP10_4Checked reads files with errors.
func TestP10_4Checked(t *testing.T) {
	for _, x := range faults() {
		f := spoilt(x)
		want := x.e
		for _, y := range f.Entries {
			if y.Kind < 1 || y.Kind > 4 {
				want = api.ErrForm // such an entry is not built as it should be
			}
		}
		if g, e := record.Read(modelBytes(f)); e != want || !reflect.DeepEqual(g, api.File{}) {
			t.Error(x.name, g, e)
		}
	}
}

// TestP10_4Lists has the longest lists that bytes can have, and longer ones.
func TestP10_4Lists(t *testing.T) {
	for name, c := range map[string]struct {
		change func(f *api.File, n int)
		e      api.Errno
	}{
		"bodies":   {func(f *api.File, n int) { f.Sky.World.Bodies = make([]api.Body, n) }, api.ErrFull},
		"track":    {func(f *api.File, n int) { f.Sky.World.Bodies[0].Track = make([]api.Vec, n) }, api.ErrFull},
		"stations": {func(f *api.File, n int) { f.Sky.Stations = make([]api.Station, n) }, api.ErrFull},
		"catalogs": {func(f *api.File, n int) { f.Sky.Catalogs = make([]api.Catalog, n) }, api.ErrFull},
		"set":      {func(f *api.File, n int) { f.Set = make([]api.Box, n) }, api.ErrFull},
		"entries":  {func(f *api.File, n int) { f.Entries = make([]api.Entry, n); fillKinds(f.Entries) }, api.ErrFull},
	} {
		f := full()
		c.change(&f, 5000)
		if _, e := record.Read(modelBytes(f)); e != c.e {
			t.Error(name, 5000, e)
		}
		f = full()
		c.change(&f, 5001)
		if _, e := record.Read(modelBytes(f)); e != api.ErrForm {
			t.Error(name, 5001, e)
		}
	}
	f := full()
	f.Sky.World.Bodies[0].Track = make([]api.Vec, 4096)
	f.Set = make([]api.Box, 20)
	if g, e := record.Read(modelBytes(f)); !record.Same(g, f) || e != api.OK {
		t.Error("the longest valid lists", e)
	}
	f.Sky.World.Bodies = nil
	if _, e := record.Read(modelBytes(f)); e != api.ErrShort {
		t.Error("no bodies", e)
	}
}

// fillKinds makes all entries withdrawals.
func fillKinds(l []api.Entry) {
	for i := range l {
		l[i].Kind = api.EntryBack
	}
}

// TestP10_4Any changes bytes of files: what can still be read is written as it was.
func TestP10_4Any(t *testing.T) {
	d := draw(1041)
	count := map[bool]int{}
	for range 30000 {
		b := []byte(modelBytes(d.story(6).f))
		for range 1 + d.below(2) {
			if i := 4 + 8*d.below(int64(len(b)/8)); d.chance(2) {
				binary.BigEndian.PutUint64(b[i:], uint64(d.upTo(6)))
			} else {
				b[d.below(int64(len(b)))] = byte(d.next())
			}
		}
		f, e := record.Read(string(b))
		if e != api.OK {
			if !reflect.DeepEqual(f, api.File{}) {
				t.Fatal(f, e)
			}
			count[false]++
			continue
		}
		count[true]++
		if again, e := record.Write(f); again != string(b) || e != api.OK {
			t.Fatal(f, e)
		}
	}
	if count[true] < 3000 || count[false] < 3000 {
		t.Error("too few cases", count)
	}
}
