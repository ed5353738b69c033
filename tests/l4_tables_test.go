package tests

import (
	"fmt"
	"math"
	"slices"
	"strings"
	"testing"

	"loop.example/g00843/impl"
)

// The tests write a Table as a text: its leaves in their order, each with its directory and its four Entries, which are `.` without a frame and otherwise the frame, with `w` if the page may be written: `1:.,3w,.,. 0:7,.,.,.`.

var noEntry = impl.Entry{Frame: impl.NoFrame}

// oddEntry is none of a leaf.
var oddEntry = impl.Entry{Frame: -5, Write: true}

// tableFrom returns the Table of a text.
func tableFrom(text string) impl.Table {
	t := impl.Table{Dirs: []int{impl.NoLeaf, impl.NoLeaf, impl.NoLeaf, impl.NoLeaf}}
	for i, part := range strings.Fields(text) {
		dir, list, _ := strings.Cut(part, ":")
		t.Dirs[dir[0]-'0'] = i
		var leaf []impl.Entry
		for _, word := range strings.Split(list, ",") {
			x := noEntry
			if word != "." {
				fmt.Sscan(strings.TrimSuffix(word, "w"), &x.Frame)
				x.Write = strings.HasSuffix(word, "w")
			}
			leaf = append(leaf, x)
		}
		t.Leaves = append(t.Leaves, leaf)
	}
	return t
}

func sameTable(a, b impl.Table) bool {
	return slices.Equal(a.Dirs, b.Dirs) && slices.EqualFunc(a.Leaves, b.Leaves, slices.Equal)
}

func isNoTable(x impl.Table) bool { return len(x.Dirs) == 0 && len(x.Leaves) == 0 }

// wantTable compares what a call returned with a Table, and with a failure if there is none.
func wantTable(t *testing.T, name string, got impl.Table, ok bool, want impl.Table, fine bool) {
	t.Helper()
	if !fine {
		want = impl.Table{}
	}
	if ok != fine || !sameTable(got, want) {
		t.Fatalf("%s = %v, %v instead of %v, %v", name, got, ok, want, fine)
	}
}

// A record has what was done to the pages in another form than a Table: the Entry of each page, and the directories with pages in the order in which they came to have the first one.
type record struct {
	pages [impl.MaxPages]impl.Entry
	dirs  []int
}

func noRecord() record {
	var r record
	for page := range r.pages {
		r.pages[page] = noEntry
	}
	return r
}

// with returns the record after the Entry of a page became another one.
func (r record) with(page int, x impl.Entry) record {
	r.pages[page] = x
	dir := page / 4
	used := false
	for _, other := range r.pages[4*dir : 4*dir+4] {
		used = used || other.Frame >= 0
	}
	place := slices.Index(r.dirs, dir)
	if used && place < 0 {
		r.dirs = append(slices.Clone(r.dirs), dir)
	}
	if !used && place >= 0 {
		r.dirs = slices.Delete(slices.Clone(r.dirs), place, place+1)
	}
	return r
}

func (r record) table() impl.Table {
	t := tableFrom("")
	for i, dir := range r.dirs {
		t.Dirs[dir] = i
		t.Leaves = append(t.Leaves, slices.Clone(r.pages[4*dir:4*dir+4]))
	}
	return t
}

func (r record) isMapped(page int) bool { return r.pages[page].Frame >= 0 }

// pagesThat returns the pages of which the frames are such ones.
func (r record) pagesThat(is func(frame int) bool) []int {
	var pages []int
	for page, x := range r.pages {
		if x.Frame >= 0 && is(x.Frame) {
			pages = append(pages, page)
		}
	}
	return pages
}

// fullRecord has all pages mapped, the directories in an order.
func fullRecord(dirs ...int) record {
	r := noRecord()
	for _, dir := range dirs {
		for e := range 4 {
			page := 4*dir + e
			r = r.with(page, impl.Entry{Frame: page * 7 % impl.MaxFrames, Write: (page+dir)%3 > 0})
		}
	}
	return r
}

// records returns the one without pages, all with a single page, all with the pages of whole directories, and many others.
func records() []record {
	all := []record{noRecord()}
	for page := range impl.MaxPages {
		all = append(all, noRecord().with(page, impl.Entry{Frame: 15 - page, Write: page%2 == 0}))
	}
	for a := range 4 {
		for b := range 4 {
			for c := range 4 {
				dirs := []int{a}
				for _, dir := range []int{b, c, 6 - a - b - c} {
					if dir >= 0 && dir < 4 && !slices.Contains(dirs, dir) {
						dirs = append(dirs, dir)
					}
				}
				all = append(all, fullRecord(dirs...))
			}
		}
	}
	next := numbers(4)
	for i := range 300 {
		r := noRecord()
		for range 1 + next(12+i%30) {
			x := noEntry
			if next(3) > 0 {
				x = impl.Entry{Frame: next(impl.MaxFrames), Write: next(2) == 0}
			}
			r = r.with(next(impl.MaxPages), x)
		}
		all = append(all, r)
	}
	return all
}

// invalidIndices are outside the pages as well as outside the frames.
var invalidIndices = []int{-1, -2, 16, 17, 32, 255, 256, 1 << 16, 1 << 32, 1<<32 + 1, math.MaxInt, math.MinInt, math.MinInt + 1}

func TestTableConstants(t *testing.T) {
	if impl.MaxPages != 16 || impl.NoFrame != -1 || impl.NoLeaf != -1 {
		t.Error("the numbers are", impl.MaxPages, impl.NoFrame, impl.NoLeaf)
	}
	for i, fault := range []int{impl.FaultNone, impl.FaultDir, impl.FaultPage, impl.FaultWrite} {
		if fault != i {
			t.Errorf("the fault %d is %d", i, fault)
		}
	}
}

// isTranslation reports whether a Table is valid in another way than the program: the indices in its directories, sorted, must be those of the leaves.
func isTranslation(x impl.Table) bool {
	var indices, leaves []int
	for _, leaf := range x.Dirs {
		if leaf != -1 {
			indices = append(indices, leaf)
		}
	}
	slices.Sort(indices)
	for i, leaf := range x.Leaves {
		leaves = append(leaves, i)
		frames := 0
		for _, entry := range leaf {
			if entry == noEntry {
				continue
			}
			if entry.Frame < 0 || entry.Frame > 15 {
				return false
			}
			frames++
		}
		if len(leaf) != 4 || frames == 0 {
			return false
		}
	}
	return len(x.Dirs) == 4 && slices.Equal(indices, leaves)
}

func TestIsTableAcceptsAllTables(t *testing.T) {
	for _, r := range records() {
		if x := r.table(); !impl.IsTable(x) || !isTranslation(x) {
			t.Fatalf("%v is no Table", x)
		}
	}
	// An empty list of leaves is as good as none.
	if !impl.IsTable(impl.Table{Dirs: []int{-1, -1, -1, -1}, Leaves: [][]impl.Entry{}}) {
		t.Error("the Table without leaves is none")
	}
}

// changedTables returns Tables that differ from one in a single part.
func changedTables(r record) []impl.Table {
	var all []impl.Table
	change := func(f func(x *impl.Table)) {
		x := r.table()
		f(&x)
		all = append(all, x)
	}
	for dir := range 4 {
		for _, leaf := range append([]int{0, 1, 2, 3, 4, 5}, invalidIndices...) {
			change(func(x *impl.Table) { x.Dirs[dir] = leaf })
		}
	}
	for leaf := range r.dirs {
		for e := range 4 {
			for _, frame := range append([]int{0, 7, 15}, invalidIndices...) {
				change(func(x *impl.Table) { x.Leaves[leaf][e].Frame = frame })
				change(func(x *impl.Table) { x.Leaves[leaf][e] = impl.Entry{Frame: frame} })
			}
			change(func(x *impl.Table) { x.Leaves[leaf][e].Write = true })
		}
		change(func(x *impl.Table) { x.Leaves[leaf] = x.Leaves[leaf][:3] })
		change(func(x *impl.Table) { x.Leaves[leaf] = append(x.Leaves[leaf], noEntry) })
		change(func(x *impl.Table) { x.Leaves[leaf] = append(x.Leaves[leaf], impl.Entry{}) })
		change(func(x *impl.Table) { x.Leaves[leaf] = nil })
		change(func(x *impl.Table) { x.Leaves = slices.Delete(x.Leaves, leaf, leaf+1) })
		change(func(x *impl.Table) { x.Leaves = slices.Insert(x.Leaves, leaf, slices.Clone(x.Leaves[leaf])) })
	}
	change(func(x *impl.Table) { x.Leaves = append(x.Leaves, slices.Repeat([]impl.Entry{noEntry}, 4)) })
	change(func(x *impl.Table) { x.Leaves = append(x.Leaves, make([]impl.Entry, 4)) })
	change(func(x *impl.Table) { x.Leaves = nil })
	change(func(x *impl.Table) { x.Dirs = x.Dirs[:3] })
	change(func(x *impl.Table) { x.Dirs = x.Dirs[1:] })
	change(func(x *impl.Table) { x.Dirs = nil })
	change(func(x *impl.Table) { x.Dirs = append(x.Dirs, -1) })
	change(func(x *impl.Table) { x.Dirs = append(x.Dirs, 0) })
	change(func(x *impl.Table) { x.Dirs = append(x.Dirs, len(x.Leaves)) })
	return all
}

func TestIsTableOfChangedTables(t *testing.T) {
	for _, r := range records() {
		for _, x := range changedTables(r) {
			if got, want := impl.IsTable(x), isTranslation(x); got != want {
				t.Fatalf("IsTable(%v) = %v", x, got)
			}
		}
	}
}

// invalidTables have one of the errors that there may be, each of them written out.
func invalidTables() map[string]impl.Table {
	leaf := func() []impl.Entry { return []impl.Entry{{Frame: 3, Write: true}, noEntry, {Frame: 5}, noEntry} }
	with := func(dirs []int, leaves ...[]impl.Entry) impl.Table { return impl.Table{Dirs: dirs, Leaves: leaves} }
	entries := func(list ...impl.Entry) impl.Table { return with([]int{0, -1, -1, -1}, list) }
	all := map[string]impl.Table{
		"no directories":                  {},
		"no directories but a leaf":       with(nil, leaf()),
		"three directories":               with([]int{-1, -1, -1}),
		"three directories and a leaf":    with([]int{0, -1, -1}, leaf()),
		"five directories":                with([]int{-1, -1, -1, -1, -1}),
		"five directories and a leaf":     with([]int{0, -1, -1, -1, -1}, leaf()),
		"five directories and leaves":     with([]int{0, 1, 2, 3, 4}, leaf(), leaf(), leaf(), leaf(), leaf()),
		"many directories":                with(make([]int, 1<<20), leaf()),
		"a leaf of no directory":          with([]int{-1, -1, -1, -1}, leaf()),
		"the first leaf of no directory":  with([]int{1, -1, -1, -1}, leaf(), leaf()),
		"the second leaf of no directory": with([]int{-1, 0, -1, -1}, leaf(), leaf()),
		"a fifth leaf":                    with([]int{0, 1, 2, 3}, leaf(), leaf(), leaf(), leaf(), leaf()),
		"many leaves":                     with([]int{0, 1, 2, 3}, slices.Repeat([][]impl.Entry{leaf()}, 1<<16)...),
		"a leaf of two directories":       with([]int{0, 0, -1, -1}, leaf()),
		"a leaf of four directories":      with([]int{0, 0, 0, 0}, leaf()),
		"a leaf of two and one of one":    with([]int{1, 0, -1, 1}, leaf(), leaf()),
		"a leaf of two and one of none":   with([]int{-1, 1, -1, 1}, leaf(), leaf()),
		"no leaf of an index":             with([]int{0, -1, -1, -1}),
		"the index behind the leaves":     with([]int{-1, 1, 0, -1}, leaf()),
		"an index instead of NoLeaf":      with([]int{0, -2, -1, -1}, leaf()),
		"a leaf that is not there":        with([]int{0, -1, -1, -1}, nil),
		"a leaf of three Entries":         entries(leaf()[:3]...),
		"a leaf of five Entries":          entries(append(leaf(), noEntry)...),
		"a leaf of five frames":           entries(append(leaf(), impl.Entry{Frame: 1})...),
		"a leaf of many Entries":          entries(make([]impl.Entry, 1<<20)...),
		"a leaf without a frame":          entries(noEntry, noEntry, noEntry, noEntry),
		"a second leaf without a frame":   with([]int{0, -1, -1, 1}, leaf(), slices.Repeat([]impl.Entry{noEntry}, 4)),
		"Write with NoFrame":              entries(leaf()[0], impl.Entry{Frame: -1, Write: true}, leaf()[2], leaf()[3]),
		"only Write with NoFrame":         entries(noEntry, noEntry, impl.Entry{Frame: -1, Write: true}, noEntry),
	}
	for _, frame := range invalidIndices[1:] {
		for e := range 4 {
			list := leaf()
			list[e].Frame = frame
			all[fmt.Sprintf("frame %d in Entry %d", frame, e)] = entries(list...)
		}
		alone := []impl.Entry{noEntry, noEntry, noEntry, {Frame: frame}}
		all[fmt.Sprintf("frame %d alone", frame)] = with([]int{1, -1, -1, 0}, leaf(), alone)
		all[fmt.Sprintf("index %d", frame)] = with([]int{frame, 0, -1, -1}, leaf())
		all[fmt.Sprintf("last index %d", frame)] = with([]int{-1, 0, -1, frame}, leaf())
	}
	return all
}

// wantTableFailures makes the calls that have a page and a frame, all of which must give zero values and false.
func wantTableFailures(t *testing.T, name string, x impl.Table, page, frame int, write bool) {
	t.Helper()
	if got, ok := impl.MapPage(x, page, frame, write); ok || !isNoTable(got) {
		t.Errorf("%s: MapPage(%d, %d, %v) = %v, %v", name, page, frame, write, got, ok)
	}
	if got, ok := impl.MapRun(x, page, frame, 1, write); ok || !isNoTable(got) {
		t.Errorf("%s: MapRun(%d, %d, 1, %v) = %v, %v", name, page, frame, write, got, ok)
	}
}

// wantPageFailures makes the calls that have only a page.
func wantPageFailures(t *testing.T, name string, x impl.Table, page int, write bool) {
	t.Helper()
	if got, ok := impl.UnmapPage(x, page); ok || !isNoTable(got) {
		t.Errorf("%s: UnmapPage(%d) = %v, %v", name, page, got, ok)
	}
	if got, ok := impl.ProtectPage(x, page, write); ok || !isNoTable(got) {
		t.Errorf("%s: ProtectPage(%d, %v) = %v, %v", name, page, write, got, ok)
	}
	if frame, fault, ok := impl.Translate(x, page, write); ok || frame != 0 || fault != 0 {
		t.Errorf("%s: Translate(%d, %v) = %d, %d, %v", name, page, write, frame, fault, ok)
	}
}

func TestInvalidTablesAreRefused(t *testing.T) {
	owners := slices.Repeat([]int{2}, impl.MaxFrames)
	for name, x := range invalidTables() {
		if impl.IsTable(x) {
			t.Errorf("%s: is a Table", name)
		}
		for page := range impl.MaxPages {
			for _, write := range []bool{false, true} {
				wantTableFailures(t, name, x, page, 15-page, write)
				wantPageFailures(t, name, x, page, write)
			}
			if pages, ok := impl.PagesOn(x, page); ok || len(pages) != 0 {
				t.Errorf("%s: PagesOn(%d) = %v, %v", name, page, pages, ok)
			}
		}
		if pages, ok := impl.MappedPages(x); ok || len(pages) != 0 {
			t.Errorf("%s: MappedPages = %v, %v", name, pages, ok)
		}
		if within, ok := impl.IsWithin(x, owners, 2); ok || within {
			t.Errorf("%s: IsWithin = %v, %v", name, within, ok)
		}
	}
}

func TestInvalidPagesAndFramesAreRefused(t *testing.T) {
	for _, r := range []record{noRecord(), fullRecord(2, 0, 1, 3), fullRecord(3, 1), noRecord().with(15, impl.Entry{Frame: 15}), noRecord().with(0, impl.Entry{Frame: 0, Write: true})} {
		x := r.table()
		name := fmt.Sprint(x)
		for _, wrong := range invalidIndices {
			for _, write := range []bool{false, true} {
				for n := range impl.MaxPages {
					wantTableFailures(t, name, x, wrong, n, write)
					wantTableFailures(t, name, x, n, wrong, write)
				}
				wantTableFailures(t, name, x, wrong, wrong, write)
				wantPageFailures(t, name, x, wrong, write)
			}
			if pages, ok := impl.PagesOn(x, wrong); ok || len(pages) != 0 {
				t.Errorf("%s: PagesOn(%d) = %v, %v", name, wrong, pages, ok)
			}
		}
	}
}

func TestMapPage(t *testing.T) {
	for _, c := range []struct {
		text        string
		page, frame int
		write       bool
		want        string
	}{
		{"", 0, 0, true, "0:0w,.,.,."},
		{"", 15, 15, false, "3:.,.,.,15"},
		{"", 6, 0, false, "1:.,.,0,."},
		// A leaf is added behind all others though its directory is not the last one.
		{"3:1,.,.,.", 0, 9, true, "3:1,.,.,. 0:9w,.,.,."},
		{"1:.,3w,.,. 3:.,.,8,.", 11, 2, false, "1:.,3w,.,. 3:.,.,8,. 2:.,.,.,2"},
		{"2:5,.,.,. 3:6,.,.,. 1:7,.,.,.", 3, 15, true, "2:5,.,.,. 3:6,.,.,. 1:7,.,.,. 0:.,.,.,15w"},
		// A leaf that is there stays where it is.
		{"1:.,3w,.,. 0:7w,.,.,.", 4, 2, false, "1:2,3w,.,. 0:7w,.,.,."},
		{"1:.,3w,.,. 0:7w,.,.,.", 3, 2, true, "1:.,3w,.,. 0:7w,.,.,2w"},
		// The same frame on several pages.
		{"0:4,4w,4,.", 3, 4, true, "0:4,4w,4,4w"},
		{"0:4,4w,4,.", 8, 4, false, "0:4,4w,4,. 2:4,.,.,."},
	} {
		got, ok := impl.MapPage(tableFrom(c.text), c.page, c.frame, c.write)
		wantTable(t, fmt.Sprintf("MapPage(%q, %d, %d, %v)", c.text, c.page, c.frame, c.write), got, ok, tableFrom(c.want), true)
	}
}

func TestMapPageIsAsRecorded(t *testing.T) {
	for _, r := range records() {
		x := r.table()
		for page := range impl.MaxPages {
			for _, frame := range []int{0, 1, page, 14, 15} {
				for _, write := range []bool{false, true} {
					got, ok := impl.MapPage(x, page, frame, write)
					want := r.with(page, impl.Entry{Frame: frame, Write: write}).table()
					wantTable(t, fmt.Sprintf("MapPage(%v, %d, %d, %v)", x, page, frame, write), got, ok, want, !r.isMapped(page))
				}
			}
		}
	}
}

func TestUnmapPage(t *testing.T) {
	for _, c := range []struct {
		text string
		page int
		want string
	}{
		{"0:0w,.,.,.", 0, ""},
		{"3:.,.,.,15", 15, ""},
		{"1:.,3w,9,.", 5, "1:.,.,9,."},
		{"1:.,3w,9,.", 6, "1:.,3w,.,."},
		// The last page of a leaf with leaves behind it, which move up.
		{"1:.,3w,.,. 0:7w,.,.,.", 5, "0:7w,.,.,."},
		{"3:1,.,.,. 0:.,2,.,. 2:.,.,3,. 1:.,.,.,4", 12, "0:.,2,.,. 2:.,.,3,. 1:.,.,.,4"},
		{"3:1,.,.,. 0:.,2,.,. 2:.,.,3,. 1:.,.,.,4", 1, "3:1,.,.,. 2:.,.,3,. 1:.,.,.,4"},
		{"3:1,.,.,. 0:.,2,.,. 2:.,.,3,. 1:.,.,.,4", 10, "3:1,.,.,. 0:.,2,.,. 1:.,.,.,4"},
		// The last page of a leaf without leaves behind it, though there may be directories.
		{"3:1,.,.,. 0:.,2,.,. 2:.,.,3,. 1:.,.,.,4", 7, "3:1,.,.,. 0:.,2,.,. 2:.,.,3,."},
		{"1:.,3w,.,. 0:7w,.,.,.", 0, "1:.,3w,.,."},
		// The frame 0 and a page that may not be written are mapped too.
		{"0:0,.,.,. 2:0,.,.,0w", 8, "0:0,.,.,. 2:.,.,.,0w"},
		{"0:0,.,.,. 2:0,.,.,0w", 0, "2:0,.,.,0w"},
	} {
		got, ok := impl.UnmapPage(tableFrom(c.text), c.page)
		wantTable(t, fmt.Sprintf("UnmapPage(%q, %d)", c.text, c.page), got, ok, tableFrom(c.want), true)
	}
}

func TestUnmapPageAndProtectPageAreAsRecorded(t *testing.T) {
	for _, r := range records() {
		x := r.table()
		for page := range impl.MaxPages {
			got, ok := impl.UnmapPage(x, page)
			wantTable(t, fmt.Sprintf("UnmapPage(%v, %d)", x, page), got, ok, r.with(page, noEntry).table(), r.isMapped(page))
			for _, write := range []bool{false, true} {
				got, ok := impl.ProtectPage(x, page, write)
				want := r.with(page, impl.Entry{Frame: r.pages[page].Frame, Write: write}).table()
				wantTable(t, fmt.Sprintf("ProtectPage(%v, %d, %v)", x, page, write), got, ok, want, r.isMapped(page))
			}
		}
	}
}

func TestProtectPage(t *testing.T) {
	for _, c := range []struct {
		text  string
		page  int
		write bool
		want  string
	}{
		{"1:.,3w,9,.", 5, false, "1:.,3,9,."},
		{"1:.,3w,9,.", 5, true, "1:.,3w,9,."},
		{"1:.,3w,9,.", 6, false, "1:.,3w,9,."},
		{"1:.,3w,9,.", 6, true, "1:.,3w,9w,."},
		{"3:.,.,.,15 0:0,.,.,.", 15, true, "3:.,.,.,15w 0:0,.,.,."},
		{"3:.,.,.,15w 0:0,.,.,.", 0, true, "3:.,.,.,15w 0:0w,.,.,."},
		// Other pages of the same frame stay as they are.
		{"0:4w,4w,4,.", 1, false, "0:4w,4,4,."},
	} {
		got, ok := impl.ProtectPage(tableFrom(c.text), c.page, c.write)
		wantTable(t, fmt.Sprintf("ProtectPage(%q, %d, %v)", c.text, c.page, c.write), got, ok, tableFrom(c.want), true)
	}
}

func TestPagesAsTheyMayNotBeChanged(t *testing.T) {
	x := tableFrom("1:.,3w,.,. 0:7,.,.,0")
	for page := range impl.MaxPages {
		switch page {
		case 0, 3, 5:
			for _, write := range []bool{false, true} {
				wantTableFailures(t, "mapped already", x, page, 1, write)
				wantTableFailures(t, "mapped already", x, page, 7, write)
			}
		default:
			if got, ok := impl.UnmapPage(x, page); ok || !isNoTable(got) {
				t.Errorf("UnmapPage(%d) = %v, %v", page, got, ok)
			}
			for _, write := range []bool{false, true} {
				if got, ok := impl.ProtectPage(x, page, write); ok || !isNoTable(got) {
					t.Errorf("ProtectPage(%d, %v) = %v, %v", page, write, got, ok)
				}
			}
		}
	}
}

func TestTranslate(t *testing.T) {
	text := "1:.,3w,0,. 0:7,.,.,15w 3:.,.,0w,15"
	for _, c := range []struct {
		page  int
		write bool
		frame int
		fault int
	}{
		{5, false, 3, impl.FaultNone}, {5, true, 3, impl.FaultNone},
		{0, false, 7, impl.FaultNone}, {0, true, -1, impl.FaultWrite},
		{6, false, 0, impl.FaultNone}, {6, true, -1, impl.FaultWrite},
		{3, false, 15, impl.FaultNone}, {3, true, 15, impl.FaultNone},
		{14, false, 0, impl.FaultNone}, {14, true, 0, impl.FaultNone},
		{15, false, 15, impl.FaultNone}, {15, true, -1, impl.FaultWrite},
		{1, false, -1, impl.FaultPage}, {1, true, -1, impl.FaultPage},
		{4, false, -1, impl.FaultPage}, {4, true, -1, impl.FaultPage},
		{7, false, -1, impl.FaultPage}, {12, true, -1, impl.FaultPage},
		{8, false, -1, impl.FaultDir}, {8, true, -1, impl.FaultDir},
		{11, false, -1, impl.FaultDir}, {11, true, -1, impl.FaultDir},
	} {
		frame, fault, ok := impl.Translate(tableFrom(text), c.page, c.write)
		if !ok || frame != c.frame || fault != c.fault {
			t.Errorf("Translate(%d, %v) = %d, %d, %v", c.page, c.write, frame, fault, ok)
		}
	}
}

// wantPages compares what a Table tells of its pages with a record.
func wantPages(t *testing.T, x impl.Table, r record) {
	t.Helper()
	for page, entry := range r.pages {
		fault := impl.FaultNone
		if entry.Frame < 0 && !slices.Contains(r.dirs, page/4) {
			fault = impl.FaultDir
		} else if entry.Frame < 0 {
			fault = impl.FaultPage
		}
		if got, code, ok := impl.Translate(x, page, false); !ok || got != entry.Frame || code != fault {
			t.Fatalf("Translate(%v, %d, false) = %d, %d, %v", x, page, got, code, ok)
		}
		frame := entry.Frame
		if entry.Frame >= 0 && !entry.Write {
			frame, fault = -1, impl.FaultWrite
		}
		if got, code, ok := impl.Translate(x, page, true); !ok || got != frame || code != fault {
			t.Fatalf("Translate(%v, %d, true) = %d, %d, %v", x, page, got, code, ok)
		}
	}
	want := r.pagesThat(func(int) bool { return true })
	if pages, ok := impl.MappedPages(x); !ok || !slices.Equal(pages, want) {
		t.Fatalf("MappedPages(%v) = %v, %v", x, pages, ok)
	}
	for frame := range impl.MaxFrames {
		want := r.pagesThat(func(other int) bool { return other == frame })
		if pages, ok := impl.PagesOn(x, frame); !ok || !slices.Equal(pages, want) {
			t.Fatalf("PagesOn(%v, %d) = %v, %v", x, frame, pages, ok)
		}
	}
}

func TestPagesAreAsRecorded(t *testing.T) {
	for _, r := range records() {
		wantPages(t, r.table(), r)
	}
}

func TestMappedPagesAndPagesOn(t *testing.T) {
	all := []int{0, 1, 2, 3, 4, 5, 6, 7, 8, 9, 10, 11, 12, 13, 14, 15}
	for _, c := range []struct {
		text   string
		mapped []int
		frame  int
		on     []int
	}{
		{"", nil, 0, nil},
		{"3:.,.,.,0 0:0w,.,.,.", []int{0, 15}, 0, []int{0, 15}},
		{"3:.,.,.,15 0:0w,.,.,.", []int{0, 15}, 15, []int{15}},
		{"2:4,5,.,. 1:4w,.,.,4", []int{4, 7, 8, 9}, 4, []int{4, 7, 8}},
		{"2:4,5,.,. 1:4w,.,.,4", []int{4, 7, 8, 9}, 6, nil},
		{"2:9,9,9,9 3:9w,9,9w,9 0:9,9,9,9w 1:9,9,9,9", all, 9, all},
	} {
		if pages, ok := impl.MappedPages(tableFrom(c.text)); !ok || !slices.Equal(pages, c.mapped) {
			t.Errorf("MappedPages(%q) = %v, %v", c.text, pages, ok)
		}
		if pages, ok := impl.PagesOn(tableFrom(c.text), c.frame); !ok || !slices.Equal(pages, c.on) {
			t.Errorf("PagesOn(%q, %d) = %v, %v", c.text, c.frame, pages, ok)
		}
	}
}

func TestIsWithin(t *testing.T) {
	for _, c := range []struct {
		text   string
		owners string
		guest  int
		want   bool
	}{
		{"1:.,3w,.,. 0:7w,.,.,.", "...2...2", 2, true},
		{"1:.,3w,.,. 0:7w,.,.,.", "...2...2", 1, false},
		{"1:.,3w,.,. 0:7w,.,.,.", "...2...1", 2, false},
		{"1:.,3w,.,. 0:7w,.,.,.", "...1...2", 2, false},
		{"1:.,3w,.,. 0:7w,.,.,.", "...2....", 2, false},
		// A frame that the owners do not have belongs to nobody.
		{"1:.,3w,.,. 0:7w,.,.,.", "...2...", 2, false},
		{"1:.,3w,.,. 0:7w,.,.,.", "...2", 2, false},
		{"3:.,.,.,15", "...............4", 4, true},
		{"3:.,.,.,15", "444444444444444", 4, false},
		{"3:.,.,.,15", "444444444444444.", 4, false},
		{"0:0,.,.,.", "1", 1, true},
		{"0:0,.,.,.", "1", 2, false},
		{"0:1,.,.,.", "1", 1, false},
		// Several pages on one frame, and pages that may not be written.
		{"0:2,2w,.,2 3:2,.,.,.", "..3", 3, true},
		{"0:2,2w,.,2 3:1,.,.,.", "..3", 3, false},
		// Without frames all of them belong to each guest.
		{"", ".", 1, true},
		{"", "3", 4, true},
		{"", "1111222233334444", 3, true},
	} {
		within, ok := impl.IsWithin(tableFrom(c.text), listFrom(c.owners), c.guest)
		if !ok || within != c.want {
			t.Errorf("IsWithin(%q, %q, %d) = %v, %v", c.text, c.owners, c.guest, within, ok)
		}
	}
}

func TestIsWithinIsAsRecorded(t *testing.T) {
	next := numbers(44)
	for i, r := range records() {
		for range 20 {
			owners := make([]int, 1+next(impl.MaxFrames))
			guest := 1 + next(impl.MaxGuests)
			for frame := range owners {
				owners[frame] = guest
				if next(2+i%15) == 0 {
					owners[frame] = next(impl.MaxGuests + 1)
				}
			}
			other := r.pagesThat(func(frame int) bool {
				return !slices.Contains(framesIn(textFrom(owners), frameMarks[guest]), frame)
			})
			if within, ok := impl.IsWithin(r.table(), owners, guest); !ok || within != (len(other) == 0) {
				t.Fatalf("IsWithin(%v, %v, %d) = %v, %v", r.table(), owners, guest, within, ok)
			}
		}
	}
}

func TestIsWithinRefusesOwnersAndGuests(t *testing.T) {
	for _, text := range []string{"", "0:0,.,.,.", "1:.,3w,.,. 0:1w,.,.,."} {
		for _, owners := range invalidOwners() {
			for guest := 0; guest <= impl.MaxGuests; guest++ {
				if within, ok := impl.IsWithin(tableFrom(text), owners, guest); ok || within {
					t.Errorf("IsWithin(%q, %s, %d) = %v, %v", text, shown(fmt.Sprint(owners)), guest, within, ok)
				}
			}
		}
		for _, guest := range append(invalidGuests, 0) {
			for _, owners := range []string{".", "....", "1111", "44444444"} {
				if within, ok := impl.IsWithin(tableFrom(text), listFrom(owners), guest); ok || within {
					t.Errorf("IsWithin(%q, %q, %d) = %v, %v", text, owners, guest, within, ok)
				}
			}
		}
	}
}

func TestMapRun(t *testing.T) {
	full := "0:0w,1w,2w,3w 1:4w,5w,6w,7w 2:8w,9w,10w,11w 3:12w,13w,14w,15w"
	for _, c := range []struct {
		text               string
		page, frame, count int
		write              bool
		want               string
	}{
		{"1:.,3w,.,. 0:7w,.,.,.", 8, 0, 3, true, "1:.,3w,.,. 0:7w,.,.,. 2:0w,1w,2w,."},
		{"", 2, 9, 1, false, "0:.,.,9,."},
		{"", 0, 0, 16, true, full},
		{"", 3, 5, 2, false, "0:.,.,.,5 1:6,.,.,."},
		// Up to the last page, up to the last frame and up to both.
		{"", 14, 3, 2, true, "3:.,.,3w,4w"},
		{"", 1, 13, 3, false, "0:.,13,14,15"},
		{"", 13, 13, 3, false, "3:.,13,14,15"},
		{"", 15, 15, 1, true, "3:.,.,.,15w"},
		// Between pages that are mapped already, and on frames that others have.
		{"1:3,.,.,3w", 5, 2, 2, false, "1:3,2,3,3w"},
		{"3:3,.,.,.", 3, 0, 9, true, "3:3,.,.,. 0:.,.,.,0w 1:1w,2w,3w,4w 2:5w,6w,7w,8w"},
	} {
		got, ok := impl.MapRun(tableFrom(c.text), c.page, c.frame, c.count, c.write)
		wantTable(t, fmt.Sprintf("MapRun(%q, %d, %d, %d, %v)", c.text, c.page, c.frame, c.count, c.write), got, ok, tableFrom(c.want), true)
	}
}

func TestMapRunRefuses(t *testing.T) {
	for _, c := range []struct {
		text               string
		page, frame, count int
	}{
		{"", 14, 3, 3}, {"", 1, 13, 4}, {"", 13, 13, 4}, {"", 15, 15, 2}, {"", 0, 0, 17}, {"", 15, 0, 2}, {"", 0, 15, 2},
		{"", 16, 0, 1}, {"", 0, 16, 1}, {"", -1, 0, 1}, {"", 0, -1, 1}, {"", -1, 0, 2}, {"", 0, -1, 2}, {"", -1, -1, 17},
		// Over a page that is mapped already: the first, one between and the last.
		{"1:3,.,.,3w", 4, 0, 1}, {"1:3,.,.,3w", 4, 0, 3}, {"1:3,.,.,3w", 3, 0, 3}, {"1:3,.,.,3w", 5, 0, 3}, {"1:3,.,.,3w", 6, 0, 4}, {"0:0,.,.,.", 0, 0, 1}, {"3:.,.,.,0", 12, 0, 4},
		{"", 0, 0, math.MaxInt}, {"", 15, 15, math.MaxInt}, {"", 0, 0, 1 << 32}, {"", 0, 0, 1<<32 + 1},
		{"", math.MaxInt, 0, 2}, {"", math.MaxInt, 0, 3}, {"", 0, math.MaxInt, 3}, {"", math.MaxInt, math.MaxInt, math.MaxInt}, {"", math.MinInt, 0, 2}, {"", math.MinInt, math.MinInt, math.MaxInt}, {"", -math.MaxInt, 0, math.MaxInt},
	} {
		for _, write := range []bool{false, true} {
			if got, ok := impl.MapRun(tableFrom(c.text), c.page, c.frame, c.count, write); ok || !isNoTable(got) {
				t.Errorf("MapRun(%q, %d, %d, %d, %v) = %v, %v", c.text, c.page, c.frame, c.count, write, got, ok)
			}
		}
	}
	for _, count := range []int{0, -1, -2, -16, math.MinInt, math.MinInt + 1} {
		for _, text := range []string{"", "1:3,.,.,3w", "3:.,.,.,0"} {
			for page := -1; page <= impl.MaxPages; page++ {
				if got, ok := impl.MapRun(tableFrom(text), page, 0, count, true); ok || !isNoTable(got) {
					t.Errorf("MapRun(%q, %d, 0, %d, true) = %v, %v", text, page, count, got, ok)
				}
			}
		}
	}
}

// runOf returns the record after a run, and false if there is none.
func runOf(r record, page, frame, count int, write bool) (record, bool) {
	if count < 1 || page < 0 || frame < 0 || page+count > impl.MaxPages || frame+count > impl.MaxFrames {
		return record{}, false
	}
	for i := range count {
		if r.isMapped(page + i) {
			return record{}, false
		}
		r = r.with(page+i, impl.Entry{Frame: frame + i, Write: write})
	}
	return r, true
}

func TestMapRunIsAsRecorded(t *testing.T) {
	for i, r := range records() {
		x := r.table()
		for page := -1; page <= impl.MaxPages; page++ {
			for _, frame := range []int{-1, 0, i % impl.MaxFrames, 15, 16} {
				for count := -1; count <= impl.MaxPages+1; count++ {
					write := (page+count)%2 == 0
					want, fine := runOf(r, page, frame, count, write)
					got, ok := impl.MapRun(x, page, frame, count, write)
					wantTable(t, fmt.Sprintf("MapRun(%v, %d, %d, %d, %v)", x, page, frame, count, write), got, ok, want.table(), fine)
				}
			}
		}
	}
}

func TestTableOf(t *testing.T) {
	for _, c := range []struct {
		pages, frames []int
		want          string
	}{
		{nil, nil, ""},
		{[]int{}, nil, ""},
		{[]int{5, 0}, []int{3, 7}, "1:.,3w,.,. 0:7w,.,.,."},
		{[]int{0, 5}, []int{7, 3}, "0:7w,.,.,. 1:.,3w,.,."},
		{[]int{0}, []int{0}, "0:0w,.,.,."},
		{[]int{15}, []int{15}, "3:.,.,.,15w"},
		// The same frame on several pages.
		{[]int{12, 4, 13}, []int{6, 6, 6}, "3:6w,6w,.,. 1:6w,.,.,."},
		{[]int{15, 14, 13, 12, 11, 10, 9, 8, 7, 6, 5, 4, 3, 2, 1, 0}, []int{0, 1, 2, 3, 4, 5, 6, 7, 8, 9, 10, 11, 12, 13, 14, 15}, "3:3w,2w,1w,0w 2:7w,6w,5w,4w 1:11w,10w,9w,8w 0:15w,14w,13w,12w"},
		{[]int{0, 4, 8, 12, 1, 5, 9, 13, 2, 6, 10, 14, 3, 7, 11, 15}, make([]int, 16), "0:0w,0w,0w,0w 1:0w,0w,0w,0w 2:0w,0w,0w,0w 3:0w,0w,0w,0w"},
	} {
		got, ok := impl.TableOf(c.pages, c.frames)
		wantTable(t, fmt.Sprintf("TableOf(%v, %v)", c.pages, c.frames), got, ok, tableFrom(c.want), true)
	}
}

func TestTableOfRefuses(t *testing.T) {
	all := []int{0, 1, 2, 3, 4, 5, 6, 7, 8, 9, 10, 11, 12, 13, 14, 15}
	for _, c := range [][2][]int{
		// Lists of different lengths.
		{nil, {0}}, {{0}, nil}, {{0, 1}, {0}}, {{0}, {0, 1}}, {all, all[:15]}, {all[:15], all}, {all, nil}, {{0}, make([]int, 1<<20)},
		// Pages given twice, with the same frame or another one.
		{{3, 3}, {1, 1}}, {{3, 3}, {1, 2}}, {{3, 4, 3}, {1, 2, 1}}, {{0, 4, 8, 0}, {0, 1, 2, 3}}, {append(all[:16:16], 0), append(all[:16:16], 0)}, {append(all[:16:16], 15), append(all[:16:16], 1)}, {make([]int, 1<<20), make([]int, 1<<20)},
	} {
		if got, ok := impl.TableOf(c[0], c[1]); ok || !isNoTable(got) {
			t.Errorf("TableOf(%v, %v) = %v, %v", shown(fmt.Sprint(c[0])), shown(fmt.Sprint(c[1])), got, ok)
		}
	}
	for _, wrong := range invalidIndices {
		for place := range all {
			list := slices.Clone(all)
			list[place] = wrong
			for _, c := range [][2][]int{{list, all}, {all, list}, {list[:place+1], all[:place+1]}, {all[:place+1], list[:place+1]}, {list[place:], all[place:]}, {all[place:], list[place:]}} {
				if got, ok := impl.TableOf(c[0], c[1]); ok || !isNoTable(got) {
					t.Errorf("TableOf(%v, %v) = %v, %v", c[0], c[1], got, ok)
				}
			}
		}
	}
}

func TestTableOfIsAsRecorded(t *testing.T) {
	next := numbers(46)
	for i := range 3000 {
		pages, frames := make([]int, i%18), make([]int, i%18)
		r, fine := noRecord(), true
		for j := range pages {
			pages[j], frames[j] = next(impl.MaxPages), next(impl.MaxFrames)
			// Most of the lists have no page twice.
			for next(20) > 0 && slices.Contains(pages[:j], pages[j]) && j < impl.MaxPages {
				pages[j] = (pages[j] + 5) % impl.MaxPages
			}
			fine = fine && !r.isMapped(pages[j])
			r = r.with(pages[j], impl.Entry{Frame: frames[j], Write: true})
		}
		got, ok := impl.TableOf(pages, frames)
		wantTable(t, fmt.Sprintf("TableOf(%v, %v)", pages, frames), got, ok, r.table(), fine)
	}
}

// changeTable makes one of the changes, and the same one in the record where it must succeed.
func changeTable(t *testing.T, x impl.Table, r record, next func(int) int) (impl.Table, record) {
	t.Helper()
	page, frame, write := next(impl.MaxPages+2)-1, next(impl.MaxFrames+2)-1, next(2) == 0
	isPage := page >= 0 && page < impl.MaxPages
	after, fine := r, isPage && r.isMapped(page)
	var got impl.Table
	var ok bool
	name := ""
	switch next(6) {
	case 0, 1:
		name = fmt.Sprintf("MapPage(%v, %d, %d, %v)", x, page, frame, write)
		got, ok = impl.MapPage(x, page, frame, write)
		after, fine = runOf(r, page, frame, 1, write)
	case 2:
		count := next(6)
		name = fmt.Sprintf("MapRun(%v, %d, %d, %d, %v)", x, page, frame, count, write)
		got, ok = impl.MapRun(x, page, frame, count, write)
		after, fine = runOf(r, page, frame, count, write)
	case 3, 4:
		name = fmt.Sprintf("UnmapPage(%v, %d)", x, page)
		got, ok = impl.UnmapPage(x, page)
		if fine {
			after = r.with(page, noEntry)
		}
	default:
		name = fmt.Sprintf("ProtectPage(%v, %d, %v)", x, page, write)
		got, ok = impl.ProtectPage(x, page, write)
		if fine {
			after = r.with(page, impl.Entry{Frame: r.pages[page].Frame, Write: write})
		}
	}
	wantTable(t, name, got, ok, after.table(), fine)
	if !fine {
		return x, r
	}
	return got, after
}

// Whatever is mapped, unmapped and protected, each page has the frame to which it was mapped last, and none after it was unmapped.
func TestSequencesLeaveEachPageAsRecorded(t *testing.T) {
	for seed := range 60 {
		next := numbers(400 + seed)
		x, r := tableFrom(""), noRecord()
		for range 200 {
			x, r = changeTable(t, x, r, next)
			if !impl.IsTable(x) {
				t.Fatalf("%v is no Table", x)
			}
			wantPages(t, x, r)
		}
	}
}

// A page is mapped, unmapped and mapped again to another frame, in a Table with other pages and without.
func TestMappedAgain(t *testing.T) {
	for _, r := range records() {
		for page := range impl.MaxPages {
			first, second := impl.Entry{Frame: page}, impl.Entry{Frame: 15 - page, Write: true}
			r := r.with(page, noEntry)
			x, ok := impl.MapPage(r.table(), page, first.Frame, first.Write)
			wantTable(t, "mapped", x, ok, r.with(page, first).table(), true)
			y, ok := impl.UnmapPage(x, page)
			wantTable(t, "unmapped", y, ok, r.table(), true)
			if got, ok := impl.UnmapPage(y, page); ok || !isNoTable(got) {
				t.Fatalf("unmapped twice: %v, %v", got, ok)
			}
			if frame, fault, ok := impl.Translate(y, page, false); !ok || frame != -1 || fault == impl.FaultNone {
				t.Fatalf("Translate(%v, %d, false) = %d, %d, %v", y, page, frame, fault, ok)
			}
			z, ok := impl.MapPage(y, page, second.Frame, second.Write)
			wantTable(t, "mapped again", z, ok, r.with(page, second).table(), true)
			if frame, fault, ok := impl.Translate(z, page, true); !ok || frame != second.Frame || fault != impl.FaultNone {
				t.Fatalf("Translate(%v, %d, true) = %d, %d, %v", z, page, frame, fault, ok)
			}
		}
	}
}

// A page whose leaf goes and comes back has its leaf behind the others.
func TestLeafThatComesBack(t *testing.T) {
	x, _ := impl.UnmapPage(tableFrom("1:.,3w,.,. 3:.,.,.,2 0:7w,.,.,."), 5)
	x, ok := impl.MapPage(x, 5, 3, true)
	wantTable(t, "back", x, ok, tableFrom("3:.,.,.,2 0:7w,.,.,. 1:.,3w,.,."), true)
}

// tableCalls have the functions that return a Table, and those that return pages as a Table with only these.
var tableCalls = map[string]func(x impl.Table) impl.Table{
	"MapPage, a leaf there":  func(x impl.Table) impl.Table { y, _ := impl.MapPage(x, 3, 9, true); return y },
	"MapPage, a new leaf":    func(x impl.Table) impl.Table { y, _ := impl.MapPage(x, 8, 9, false); return y },
	"UnmapPage, a leaf left": func(x impl.Table) impl.Table { y, _ := impl.UnmapPage(x, 6); return y },
	"UnmapPage, one less":    func(x impl.Table) impl.Table { y, _ := impl.UnmapPage(x, 0); return y },
	"UnmapPage, the last":    func(x impl.Table) impl.Table { y, _ := impl.UnmapPage(x, 15); return y },
	"ProtectPage":            func(x impl.Table) impl.Table { y, _ := impl.ProtectPage(x, 5, false); return y },
	"ProtectPage, no change": func(x impl.Table) impl.Table { y, _ := impl.ProtectPage(x, 5, true); return y },
	"MapRun, one":            func(x impl.Table) impl.Table { y, _ := impl.MapRun(x, 1, 0, 1, true); return y },
	"MapRun":                 func(x impl.Table) impl.Table { y, _ := impl.MapRun(x, 7, 0, 8, true); return y },
	"MapPage, none":          func(x impl.Table) impl.Table { y, _ := impl.MapPage(x, 0, 0, true); return y },
	"UnmapPage, none":        func(x impl.Table) impl.Table { y, _ := impl.UnmapPage(x, 1); return y },
	"ProtectPage, none":      func(x impl.Table) impl.Table { y, _ := impl.ProtectPage(x, 8, true); return y },
	"MapRun, none":           func(x impl.Table) impl.Table { y, _ := impl.MapRun(x, 1, 0, 9, true); return y },
	"MappedPages":            func(x impl.Table) impl.Table { y, _ := impl.MappedPages(x); return impl.Table{Dirs: y} },
	"PagesOn":                func(x impl.Table) impl.Table { y, _ := impl.PagesOn(x, 3); return impl.Table{Dirs: y} },
}

const sharedTable = "1:.,3w,3,. 0:7w,.,.,. 3:.,.,.,15"

// inLonger lets each list of a Table lie in a longer one, whose other elements are invalid.
func inLonger(x impl.Table) (whole, part impl.Table) {
	whole.Dirs = slices.Concat([]int{-7}, x.Dirs, []int{9, 0, -1})
	odd := []impl.Entry{oddEntry, {}, {Frame: 2}}
	whole.Leaves = append(whole.Leaves, odd)
	part.Dirs = whole.Dirs[1 : 1+len(x.Dirs)]
	for _, leaf := range x.Leaves {
		whole.Leaves = append(whole.Leaves, slices.Concat(odd[:1], leaf, odd))
	}
	whole.Leaves = append(whole.Leaves, odd, x.Leaves[0], nil)
	part.Leaves = slices.Clone(whole.Leaves)[1 : 1+len(x.Leaves)]
	for i, leaf := range x.Leaves {
		part.Leaves[i] = whole.Leaves[1+i][1 : 1+len(leaf)]
	}
	return whole, part
}

// The lists of the Table lie within longer ones, whose other elements must be neither read nor written.
func TestTableArgumentsAreNotChanged(t *testing.T) {
	for name, call := range tableCalls {
		whole, part := inLonger(tableFrom(sharedTable))
		before, _ := inLonger(tableFrom(sharedTable))
		outer := slices.Clone(part.Leaves[:cap(part.Leaves)])
		got := call(part)
		impl.IsTable(part)
		impl.Translate(part, 5, true)
		impl.IsWithin(part, listFrom("...1...1...1...1"), 1)
		if !sameTable(whole, before) || !slices.EqualFunc(part.Leaves[:cap(part.Leaves)], outer, slices.Equal) || !sameTable(part, tableFrom(sharedTable)) {
			t.Errorf("%s changes its argument: %v, %v", name, whole, part)
		}
		if want := call(tableFrom(sharedTable)); !sameTable(got, want) {
			t.Errorf("%s reads beyond the length: %v, %v", name, got, want)
		}
	}
}

func TestListsOfTablesAreNotChanged(t *testing.T) {
	pages, frames, owners := []int{77, 5, 0, 5, 5}, []int{88, 3, 7, -9, -9}, []int{-7, 2, 1, 1, 1, 9, -1}
	lists := [][]int{slices.Clone(pages), slices.Clone(frames), slices.Clone(owners)}
	got, ok := impl.TableOf(pages[1:3], frames[1:3])
	wantTable(t, "TableOf in longer lists", got, ok, tableFrom("1:.,3w,.,. 0:7w,.,.,."), true)
	impl.TableOf(pages[1:4], frames[1:4])
	// The owner of the frame 4 is beyond the length, and that of the frame 0 is the first one there.
	for _, text := range []string{"0:1,3,.,.", "0:0,.,.,.", "0:4,.,.,."} {
		if within, ok := impl.IsWithin(tableFrom(text), owners[1:5], 1); !ok || within != (text == "0:1,3,.,.") {
			t.Errorf("IsWithin(%q) in a longer list = %v, %v", text, within, ok)
		}
	}
	if !slices.Equal(pages, lists[0]) || !slices.Equal(frames, lists[1]) || !slices.Equal(owners, lists[2]) {
		t.Error("the arguments became", pages, frames, owners)
	}
}

func TestTableResultsAreNotShared(t *testing.T) {
	for name, call := range tableCalls {
		_, argument := inLonger(tableFrom(sharedTable))
		tables := []impl.Table{argument, call(argument), call(argument)}
		wantTablesApart(t, name, tables)
	}
	pages, frames := []int{5, 0, 99, 99}, []int{3, 7, 99, 99}
	for _, count := range []int{0, 1, 2} {
		x, _ := impl.TableOf(pages[:count], frames[:count])
		y, _ := impl.TableOf(pages[:count], frames[:count])
		wantTablesApart(t, "TableOf", []impl.Table{x, y, {Dirs: pages}, {Dirs: frames}})
	}
}

// wantTablesApart overwrites each list of some Tables; all the others, those of the same Table included, must stay as they are.
func wantTablesApart(t *testing.T, name string, tables []impl.Table) {
	t.Helper()
	var dirs [][]int
	var leaves [][]impl.Entry
	for _, x := range tables {
		dirs = append(dirs, x.Dirs)
		leaves = append(leaves, x.Leaves...)
	}
	wantNotShared(t, name, dirs, -5)
	wantNotShared(t, name, leaves, oddEntry)
	for i, x := range tables {
		whole := x.Leaves[:cap(x.Leaves)]
		saved := slices.Clone(whole)
		clear(whole)
		place := 0
		for j, y := range tables {
			if i != j && !slices.EqualFunc(y.Leaves, leaves[place:place+len(y.Leaves)], slices.Equal) {
				t.Errorf("%s: the leaves of the Table %d are in the list of those of the Table %d", name, j, i)
			}
			place += len(y.Leaves)
		}
		copy(whole, saved)
	}
}

// What was returned before changes nothing of what is returned later.
func TestTableCallsKeepNothing(t *testing.T) {
	overwrite := func(x impl.Table) {
		for i := range x.Dirs {
			x.Dirs[i] = -5
		}
		for i := range x.Leaves {
			for j := range x.Leaves[i] {
				x.Leaves[i][j] = oddEntry
			}
			x.Leaves[i] = nil
		}
	}
	for name, call := range tableCalls {
		want := call(tableFrom(sharedTable))
		overwrite(call(tableFrom(sharedTable)))
		if again := call(tableFrom(sharedTable)); !sameTable(again, want) {
			t.Errorf("%s became %v instead of %v", name, again, want)
		}
	}
	first, _ := impl.TableOf(nil, nil)
	overwrite(first)
	again, ok := impl.TableOf(nil, nil)
	wantTable(t, "TableOf again", again, ok, tableFrom(""), true)
}
