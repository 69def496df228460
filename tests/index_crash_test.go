package tests

import (
	"slices"
	"testing"

	"loop.example/g00158/impl"
)

// checkCrash fails unless the first bytes of the log stay, that many, and all of them are synced.
func checkCrash(t *testing.T, d impl.Disk, keep, left int) {
	t.Helper()
	want := d
	want.Log, want.Synced = d.Log[:left], left
	got, ok := impl.CrashIndex(d, keep)
	if !ok || !sameDisk(got, want) {
		t.Errorf("CrashIndex(%#v, %d) = %#v %v, asked for %#v", d, keep, got, ok, want)
	}
	if !impl.GoodDisk(got) {
		t.Errorf("CrashIndex(%#v, %d) = %#v, which is not good", d, keep, got)
	}
}

func TestCrashIndexByHand(t *testing.T) {
	// Records of 6, 5 and 6 bytes.
	d := impl.Disk{Log: "p\x01\x01a1.p\x01\x00b.p\x01\x01a2."}
	for _, p := range []struct{ synced, keep, left int }{
		{0, 0, 0}, {0, 1, 0}, {0, 5, 0}, {0, 6, 6}, {0, 7, 6}, {0, 10, 6}, {0, 11, 11}, {0, 16, 11}, {0, 17, 17}, {0, 18, 17}, {0, most, 17},
		{6, 0, 6}, {6, 1, 6}, {6, 4, 6}, {6, 5, 11}, {6, 6, 11}, {6, 10, 11}, {6, 11, 17}, {6, 12, 17}, {6, most, 17},
		{11, 0, 11}, {11, 5, 11}, {11, 6, 17}, {17, 0, 17}, {17, 1, 17}, {17, most, 17},
		// Synced within a record: what stays is up to the last whole one.
		{1, 0, 0}, {5, 0, 0}, {5, 1, 6}, {7, 0, 6}, {7, 3, 6}, {7, 4, 11}, {16, 0, 11}, {16, 1, 17}, {3, most, 17}, {1, most - 1, 17},
	} {
		d.Synced = p.synced
		checkCrash(t, d, p.keep, p.left)
	}
	checkCrash(t, impl.Disk{}, 0, 0)
	checkCrash(t, impl.Disk{}, 7, 0)
	checkCrash(t, impl.Disk{Rules: "& c < ch"}, most, 0)
}

func TestCrashIndexWithKeepBelow0(t *testing.T) {
	for _, d := range []impl.Disk{{}, someDisk(t), logged("", "put a=1")} {
		for _, n := range []int{0, len(d.Log)} {
			d.Synced = n
			for _, keep := range []int{-1, -2, -len(d.Log) - 1, -6000, least + 1, least} {
				if got, ok := impl.CrashIndex(d, keep); !sameDisk(got, impl.Disk{}) || ok {
					t.Errorf("CrashIndex(%#v, %d) = %#v %v", d, keep, got, ok)
				}
			}
		}
	}
}

// At every byte of a log, whatever of it is synced.
func TestCrashIndexAtEveryByte(t *testing.T) {
	log, ends := someLog()
	for _, rules := range []string{"", "[levels 2]"} {
		d := impl.Disk{Rules: rules, Log: log, Pages: pagesOf(t, keyed(t, rules, "q=7", "r=8"))}
		for synced := range len(log) + 1 {
			d.Synced = synced
			for keep := range len(log) + 3 {
				left := min(synced+keep, len(log))
				for !ends[left] {
					left--
				}
				checkCrash(t, d, keep, left)
			}
			if t.Failed() {
				return
			}
		}
	}
}

// What was synced stays, and a crash leaves the rows that the first things done make, however many.
func TestACrashLeavesTheFirstRecords(t *testing.T) {
	for seed := uint32(1); seed <= 60; seed++ {
		next := numbers(seed)
		d := someDisk(t)
		d.Log, d.Synced = "", 0
		l := manyDos(next, 14)
		// The rows behind each record from the last sync or checkpoint on.
		rows, _ := impl.OpenRows(d)
		states := [][]impl.Row{rows}
		for _, o := range l {
			var code int
			if d, code = impl.DoIndex(d, o); code != impl.IndexOk {
				continue
			}
			rows, _ := impl.OpenRows(d)
			if o.Kind == impl.DoSync || o.Kind == impl.DoCheckpoint {
				states = nil
			}
			states = append(states, rows)
		}
		at := 0
		for keep := range len(d.Log) + 2 {
			c, ok := impl.CrashIndex(d, keep)
			rows, good := impl.OpenRows(c)
			if !ok || !good {
				t.Fatalf("CrashIndex(%#v, %d) = %#v %v", d, keep, c, ok)
			}
			for at < len(states) && !slices.Equal(rows, states[at]) {
				at++
			}
			if at == len(states) {
				t.Fatalf("CrashIndex(%#v, %d): %#v are none of %#v, or come late", d, keep, rows, states)
			}
			if keep == 0 && at != 0 {
				t.Errorf("CrashIndex(%#v, 0): not the rows that were synced", d)
			}
		}
		if rows, _ := impl.OpenRows(first(impl.CrashIndex(d, most))); !slices.Equal(rows, states[len(states)-1]) {
			t.Errorf("CrashIndex(%#v, all): %#v, asked for %#v", d, rows, states[len(states)-1])
		}
	}
}

// A crash behind a crash changes nothing, and the index goes on from there.
func TestCrashesAndOn(t *testing.T) {
	d, _, _ := impl.PlayIndex(impl.Disk{}, done("put a=1", "sync", "put b=2", "put c=3"))
	c, _ := impl.CrashIndex(d, 9)
	checkRows(t, c, keyed(t, "", "a=1", "b=2"))
	for _, keep := range []int{0, 1, 6, most} {
		checkCrash(t, c, keep, len(c.Log))
	}
	c, codes, _ := impl.PlayIndex(c, done("put c=4", "drop a", "checkpoint", "put d=5"))
	if !slices.Equal(codes, []int{0, 0, 0, 0}) {
		t.Error(codes)
	}
	c, _ = impl.CrashIndex(c, 5)
	if !sameDisk(c, impl.Disk{Pages: pagesOf(t, keyed(t, "", "b=2", "c=4"))}) {
		t.Errorf("%#v", c)
	}
}
