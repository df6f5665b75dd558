package tests

import (
	"fmt"
	"math"
	"reflect"
	"regexp"
	"slices"
	"strconv"
	"strings"
	"testing"

	"loop.example/g00460/impl"
)

type (
	objects = []impl.Object
	places  = []impl.Place
)

func place(obj, sect, bank, addr int64) impl.Place {
	return impl.Place{Obj: obj, Sect: sect, Bank: bank, Addr: addr}
}

// spot is a byte of memory: work has a bank of its own, below all others.
type spot struct{ bank, addr int64 }

func modelObjectsOk(l objects) bool {
	return len(l) <= 4 && !slices.ContainsFunc(l, func(o impl.Object) bool { return !modelObjectOk(o) })
}

// modelSpots are the bytes that a section has at a place.
func modelSpots(s impl.Section, bank, addr int64) (out []spot) {
	if s.Kind == impl.SeWork {
		bank = -1
	}
	for k := range len(s.Data) {
		out = append(out, spot{bank, addr + int64(k)})
	}
	return out
}

// modelMayStand is whether a section may stand there, were it alone.
func modelMayStand(s impl.Section, bank, addr int64) bool {
	base := baseOfKind[s.Kind]
	return (s.Bank == -1 || s.Bank == bank) && (s.Addr == -1 || s.Addr == addr) &&
		(s.Kind == impl.SeBank) == (bank > 0) && addr >= base && addr+int64(len(s.Data)) <= base+256
}

// modelPlaced asks at each place of each bank, whatever the section says of it.
func modelPlaced(l objects) (places, int64) {
	if !modelObjectsOk(l) {
		return nil, 1
	}
	taken := map[spot]bool{}
	found := map[[2]int]impl.Place{}
	settle := func(obj, sect int, s impl.Section) bool {
		for bank := range int64(16) {
			for addr := baseOfKind[s.Kind]; addr <= baseOfKind[s.Kind]+256; addr++ {
				if !modelMayStand(s, bank, addr) {
					continue
				}
				spots := modelSpots(s, bank, addr)
				if slices.ContainsFunc(spots, func(p spot) bool { return taken[p] }) {
					continue
				}
				for _, p := range spots {
					taken[p] = true
				}
				found[[2]int{obj, sect}] = place(int64(obj), int64(sect), bank, addr)
				return true
			}
		}
		return false
	}
	for pass := range 2 {
		for obj, o := range l {
			for sect, s := range o.Sections {
				first := s.Addr >= 0 && (s.Kind != impl.SeBank || s.Bank >= 0)
				if first == (pass == 0) && !settle(obj, sect, s) {
					return nil, 2
				}
			}
		}
	}
	var out places
	for obj, o := range l {
		for sect := range o.Sections {
			out = append(out, found[[2]int{obj, sect}])
		}
	}
	return out, 0
}

func modelSym(s impl.OSym, obj int, at places) impl.Sym {
	if s.Sect < 0 {
		return impl.Sym{Name: s.Name, Value: s.At}
	}
	k := slices.IndexFunc(at, func(p impl.Place) bool { return p.Obj == int64(obj) && p.Sect == s.Sect })
	return impl.Sym{Name: s.Name, Bank: at[k].Bank, Value: at[k].Addr + s.At}
}

// modelOuts are all symbols that are Out, in the order of the objects.
func modelOuts(l objects, at places) (out []impl.Sym, twice bool) {
	for obj, o := range l {
		for _, s := range o.Syms {
			if s.Out {
				twice = twice || slices.ContainsFunc(out, func(z impl.Sym) bool { return z.Name == s.Name })
				out = append(out, modelSym(s, obj, at))
			}
		}
	}
	return out, twice
}

func byName(l []impl.Sym) []impl.Sym {
	slices.SortFunc(l, func(a, b impl.Sym) int { return strings.Compare(a.Name, b.Name) })
	return l
}

func modelSymsFor(l objects, at places, obj int64) ([]impl.Sym, int64) {
	if !modelObjectsOk(l) || obj < 0 || obj >= int64(len(l)) {
		return nil, 1
	}
	for k, o := range l {
		for sect := range o.Sections {
			n := slices.IndexFunc(at, func(p impl.Place) bool { return p.Obj == int64(k) && p.Sect == int64(sect) })
			if n < 0 || at[n].Bank < 0 || at[n].Bank > 15 || at[n].Addr < 0 || at[n].Addr > 65535 {
				return nil, 1
			}
		}
	}
	outs, twice := modelOuts(l, at)
	if twice {
		return nil, 3
	}
	var out []impl.Sym
	for _, s := range l[obj].Syms {
		out = append(out, modelSym(s, int(obj), at))
	}
	own := len(out)
	for _, s := range outs {
		if !slices.ContainsFunc(out[:own], func(z impl.Sym) bool { return z.Name == s.Name }) {
			out = append(out, s)
		}
	}
	return byName(out), 0
}

// modelTold is what an expression tells, and LkOk, LkName or LkRange.
func modelTold(e eList, syms []impl.Sym) (int64, int64) {
	n, code := model(e, syms)
	return n, map[int64]int64{impl.EvOk: 0, impl.EvName: 4, impl.EvZero: 5}[code]
}

func modelPatched(p impl.Patch, at impl.Place, syms []impl.Sym, rom map[spot]byte) int64 {
	n, code := modelTold(p.Expr, syms)
	if code != 0 {
		return code
	}
	least, most := int64(-128), int64(255)
	switch p.Kind {
	case impl.PaWord:
		least, most = -32768, 65535
	case impl.PaRel:
		n, most = n-at.Addr-p.At-1, 127
	}
	if n < least || n > most {
		return 5
	}
	rom[spot{at.Bank, at.Addr + p.At}] = byte(n)
	if p.Kind == impl.PaWord {
		rom[spot{at.Bank, at.Addr + p.At + 1}] = byte(n / 256)
		if n < 0 {
			rom[spot{at.Bank, at.Addr + p.At + 1}] = byte((n + 65536) / 256)
		}
	}
	return 0
}

// modelRom reads a rom out of single bytes.
func modelRom(bytes map[spot]byte, at places) string {
	banks := int64(2)
	for _, p := range at {
		if p.Bank >= banks {
			banks = p.Bank + 1
		}
	}
	out := []byte{}
	for bank := range banks {
		for k := range int64(256) {
			addr := k
			if bank > 0 {
				addr += 256
			}
			out = append(out, bytes[spot{bank, addr}])
		}
	}
	return string(out)
}

func modelLinked(l objects) (string, []impl.Sym, int64) {
	at, code := modelPlaced(l)
	if code != 0 {
		return "", nil, code
	}
	outs, twice := modelOuts(l, at)
	if twice {
		return "", nil, 3
	}
	rom := map[spot]byte{}
	for _, p := range at {
		s := l[p.Obj].Sections[p.Sect]
		if s.Kind == impl.SeWork {
			continue
		}
		for n := range len(s.Data) {
			rom[spot{p.Bank, p.Addr + int64(n)}] = s.Data[n]
		}
		syms, _ := modelSymsFor(l, at, p.Obj)
		for _, x := range s.Patches {
			if code := modelPatched(x, p, syms, rom); code != 0 {
				return "", nil, code
			}
		}
	}
	for obj, o := range l {
		syms, _ := modelSymsFor(l, at, int64(obj))
		for _, e := range o.Asserts {
			n, code := modelTold(e, syms)
			if code != 0 {
				return "", nil, code
			}
			if n == 0 {
				return "", nil, 6
			}
		}
	}
	return modelRom(rom, at), byName(outs), 0
}

// asked has objects with marks in the room behind each list, and says whether all is as it was.
func asked(l objects) (given objects, same func() bool) {
	given = spared(l, impl.Object{Asserts: []eList{nil}})
	for k := range l {
		given[k] = sparedObject(l[k])
	}
	whole := func() (out objects) {
		for _, o := range given[:cap(given)] {
			out = append(out, wholeObject(o))
		}
		return out
	}
	before := whole()
	return given, func() bool { return reflect.DeepEqual(whole(), before) }
}

// wantLinks asks all functions that take objects for what the models tell of them; it tells the code of Linked.
func wantLinks(t *testing.T, l objects) int64 {
	t.Helper()
	given, same := asked(l)
	wantAt, wantCode := modelPlaced(l)
	at, code := impl.Placed(given)
	if code != wantCode || !slices.Equal(at, wantAt) {
		t.Fatalf("Placed(%s) = %v, %d, want %v, %d", brief(l), at, code, wantAt, wantCode)
	}
	wantRom, wantOuts, wantCode := modelLinked(l)
	rom, outs, code := impl.Linked(given)
	if code != wantCode || rom != wantRom || !slices.Equal(outs, wantOuts) {
		t.Fatalf("Linked(%s) = %.100q of %d, %v, %d, want %.100q of %d, %v, %d", brief(l), rom, len(rom), outs, code, wantRom, len(wantRom), wantOuts, wantCode)
	}
	for obj := int64(-1); obj <= int64(len(l)); obj++ {
		wantSymsFor(t, given, at, obj)
	}
	if !same() {
		t.Fatalf("%s: an argument was written into", brief(l))
	}
	return code
}

func wantSymsFor(t *testing.T, l objects, at places, obj int64) {
	t.Helper()
	given, all, before := guarded(at, impl.Place{Obj: 99})
	want, wantCode := modelSymsFor(l, at, obj)
	syms, code := impl.SymsFor(l, given, obj)
	if code != wantCode || !slices.Equal(syms, want) {
		t.Fatalf("SymsFor(%s, %v, %d) = %v, %d, want %v, %d", brief(l), at, obj, syms, code, want, wantCode)
	}
	if !slices.Equal(all, before) {
		t.Fatalf("SymsFor(.., %v, %d): an argument was written into", at, obj)
	}
}

// wantCode asks for the code of Linked, by its number and by the model.
func wantCode(t *testing.T, want int64, l ...impl.Object) {
	t.Helper()
	if code := wantLinks(t, l); code != want {
		t.Errorf("Linked(%s) tells %d, want %d", brief(l), code, want)
	}
}

func wantPlaces(t *testing.T, l objects, want ...spot) {
	t.Helper()
	wantLinks(t, l)
	at, code := impl.Placed(l)
	var got []spot
	for _, p := range at {
		got = append(got, spot{p.Bank, p.Addr})
	}
	if code != impl.LkOk || !slices.Equal(got, want) {
		t.Errorf("Placed(%s) = %v, %d, want %v", brief(l), at, code, want)
	}
}

func wantNoPlaces(t *testing.T, l objects, want int64) {
	t.Helper()
	wantCode(t, want, l...)
	if at, code := impl.Placed(l); code != want || at != nil {
		t.Errorf("Placed(%s) = %v, %d, want %d", brief(l), at, code, want)
	}
}

// sized is a section of so many bytes, no two of which are alike side by side.
func sized(kind, bank, addr int64, size int) impl.Section {
	s := impl.Section{Name: "s", Kind: kind, Bank: bank, Addr: addr}
	for k := range size {
		s.Data += string([]byte{byte(7*k + 1)})
	}
	if kind == impl.SeWork {
		s.Data = strings.Repeat("\x00", size)
	}
	return s
}

func zero(addr int64, size int) impl.Section         { return sized(impl.SeZero, -1, addr, size) }
func banked(bank, addr int64, size int) impl.Section { return sized(impl.SeBank, bank, addr, size) }
func worked(addr int64, size int) impl.Section       { return sized(impl.SeWork, -1, addr, size) }

func objectOf(s ...impl.Section) impl.Object { return impl.Object{Sections: s} }

// alone is one object of these sections.
func alone(s ...impl.Section) objects { return objects{objectOf(s...)} }

// linkedSource is the object of lines that are written with a bar between two.
func linkedSource(t *testing.T, lines string) impl.Object {
	t.Helper()
	return rightObject(t, sourceOf(lines))
}

func TestNumbersOfTheLinker(t *testing.T) {
	codes := []int{impl.LkOk, impl.LkForm, impl.LkPlace, impl.LkTwice, impl.LkName, impl.LkRange, impl.LkAssert}
	if !slices.Equal(codes, []int{0, 1, 2, 3, 4, 5, 6}) || impl.MaxObjs != 4 {
		t.Error("another number")
	}
}

func TestHowManyObjects(t *testing.T) {
	wantPlaces(t, nil)
	wantPlaces(t, objects{})
	rom, outs, code := impl.Linked(nil)
	if rom != strings.Repeat("\x00", 512) || len(outs) != 0 || code != impl.LkOk {
		t.Errorf("Linked(nil) = %q, %v, %d", rom, outs, code)
	}
	full := objectOf(zero(-1, 1), banked(-1, -1, 2), worked(-1, 3))
	for many := range 8 {
		for _, o := range []impl.Object{{}, full} {
			l := slices.Repeat(objects{o}, many)
			if many > 4 {
				wantNoPlaces(t, l, impl.LkForm)
			} else {
				wantCode(t, impl.LkOk, l...)
			}
		}
	}
	wantCode(t, impl.LkForm, slices.Repeat(objects{{}}, 10000)...)
	wantPlaces(t, objects{full, {}, full, full}, spot{0, 0}, spot{1, 256}, spot{0, 49152}, spot{0, 1}, spot{1, 258}, spot{0, 49155}, spot{0, 2}, spot{1, 260}, spot{0, 49158})
}

func TestObjectsThatAreNotRight(t *testing.T) {
	right := linkedSource(t, "section a,rom0|x: nop|export x|assert 1")
	for _, wrong := range []impl.Object{
		objectOf(zero(257, 0)), objectOf(zero(-1, 257)), objectOf(banked(16, -1, 1)), objectOf(banked(0, -1, 1)), objectOf(sized(3, -1, -1, 1)), objectOf(sized(-1, -1, -1, 1)), objectOf(impl.Section{Name: "\xff", Bank: -1, Addr: -1}),
		{Syms: []impl.OSym{{Name: "b", Sect: -1}, {Name: "a", Sect: -1}}}, {Syms: []impl.OSym{{Name: "k", Sect: 0}}}, {Syms: []impl.OSym{{Name: "k", Sect: -1, At: 1 << 31}}}, {Syms: []impl.OSym{{Name: "\x80", Sect: -1}}}, {Asserts: []eList{nil}}, {Asserts: slices.Repeat([]eList{nodes(num(1))}, 13)},
		{Sections: []impl.Section{{Name: "s", Bank: -1, Addr: -1, Data: "x", Patches: []impl.Patch{{At: 1, Kind: 1, Expr: nodes(num(1))}}}}},
	} {
		for _, l := range []objects{{wrong}, {wrong, right}, {right, wrong}, {right, {}, {}, wrong}, {wrong, wrong}} {
			wantNoPlaces(t, l, impl.LkForm)
		}
		// It is told ahead of what the right one is refused for.
		wantNoPlaces(t, objects{objectOf(zero(0, 1), zero(0, 1)), wrong}, impl.LkForm)
		wantNoPlaces(t, objects{right, right, wrong}, impl.LkForm)
	}
	for _, n := range farNumbers {
		for _, s := range []impl.Section{sized(n, -1, -1, 0), zero(n, 1), zero(n, 0), banked(n, -1, 1), banked(-1, n, 1), banked(n, n, 0), worked(n, 1), sized(impl.SeZero, n, -1, 1), sized(impl.SeWork, n, -1, 1)} {
			wantNoPlaces(t, alone(s), impl.LkForm)
		}
		wantCode(t, impl.LkForm, impl.Object{Sections: []impl.Section{zero(-1, 1)}, Syms: []impl.OSym{{Name: "k", Sect: n}}})
		wantCode(t, impl.LkForm, impl.Object{Sections: []impl.Section{zero(-1, 1)}, Syms: []impl.OSym{{Name: "k", Sect: 0, At: n}}})
		for _, p := range []impl.Patch{{At: n, Kind: 1, Expr: nodes(num(1))}, {Kind: n, Expr: nodes(num(1))}} {
			s := zero(-1, 2)
			s.Patches = []impl.Patch{p}
			wantCode(t, impl.LkForm, objectOf(s))
		}
	}
}

func TestSectionsWithoutBytes(t *testing.T) {
	wantPlaces(t, alone(zero(-1, 0), banked(-1, -1, 0), worked(-1, 0)), spot{0, 0}, spot{1, 256}, spot{0, 49152})
	wantPlaces(t, alone(zero(256, 0), banked(-1, 512, 0), banked(15, 512, 0), worked(49408, 0)), spot{0, 256}, spot{1, 512}, spot{15, 512}, spot{0, 49408})
	// One that has all bytes of the bank takes nothing from them, wherever they stand and whoever comes first.
	for _, addr := range []int64{-1, 0, 1, 100, 255, 256} {
		least := max(addr, 0)
		wantPlaces(t, alone(zero(-1, 256), zero(addr, 0)), spot{0, 0}, spot{0, least})
		wantPlaces(t, alone(zero(addr, 0), zero(0, 256)), spot{0, least}, spot{0, 0})
		wantPlaces(t, alone(zero(addr, 0), zero(addr, 0), zero(addr, 0)), spot{0, least}, spot{0, least}, spot{0, least})
		if addr >= 0 {
			addr += 256
		}
		wantPlaces(t, alone(banked(-1, addr, 0), banked(1, 256, 256), banked(-1, addr, 0), banked(1, addr, 0)), spot{1, least + 256}, spot{1, 256}, spot{1, least + 256}, spot{1, least + 256})
		if addr >= 0 {
			addr += 49152 - 256
		}
		wantPlaces(t, alone(worked(49152, 256), worked(addr, 0)), spot{0, 49152}, spot{0, least + 49152})
	}
	// Nor do they take a byte from others.
	wantPlaces(t, alone(zero(5, 0), zero(-1, 10), zero(3, 2)), spot{0, 5}, spot{0, 5}, spot{0, 3})
	wantPlaces(t, alone(zero(0, 10), zero(5, 0), zero(10, 0), zero(9, 0)), spot{0, 0}, spot{0, 5}, spot{0, 10}, spot{0, 9})
	// Behind the last byte of the last bank there is no byte, and none is asked for.
	for _, size := range []int{0, 256} {
		rom, _, code := impl.Linked(alone(banked(15, 512, 0), banked(15, 256, size), zero(256, 0)))
		if code != impl.LkOk || len(rom) != 4096 || rom[:3840] != strings.Repeat("\x00", 3840) {
			t.Error(len(rom), code)
		}
	}
	l := objects{{Sections: []impl.Section{zero(256, 0), banked(2, 512, 0), worked(49408, 0)}, Syms: []impl.OSym{{Name: "p", Out: true}, {Name: "q", Sect: 1, Out: true}, {Name: "r", Sect: 2, Out: true}}}}
	wantCode(t, impl.LkOk, l...)
	if _, outs, _ := impl.Linked(l); !slices.Equal(outs, []impl.Sym{{Name: "p", Value: 256}, {Name: "q", Bank: 2, Value: 512}, {Name: "r", Value: 49408}}) {
		t.Error(outs)
	}
}

func TestSectionsOfAWholeBank(t *testing.T) {
	wantPlaces(t, alone(zero(-1, 256), banked(-1, -1, 256), worked(-1, 256)), spot{0, 0}, spot{1, 256}, spot{0, 49152})
	wantPlaces(t, alone(banked(-1, -1, 256), banked(-1, 256, 256), banked(5, -1, 256), banked(1, 256, 256)), spot{2, 256}, spot{3, 256}, spot{5, 256}, spot{1, 256})
	wantNoPlaces(t, alone(banked(-1, -1, 256), banked(-1, 256, 256), banked(2, -1, 256), banked(1, 256, 256)), impl.LkPlace)
	for _, size := range []int{1, 2, 255, 256} {
		wantNoPlaces(t, alone(zero(-1, 256), zero(-1, size)), impl.LkPlace)
		wantNoPlaces(t, alone(zero(-1, size), zero(0, 256)), impl.LkPlace)
		wantNoPlaces(t, alone(worked(-1, size), worked(-1, 256)), impl.LkPlace)
		wantNoPlaces(t, alone(banked(3, -1, size), banked(3, -1, 256)), impl.LkPlace)
		wantPlaces(t, alone(banked(-1, -1, size), banked(-1, -1, 256)), spot{1, 256}, spot{2, 256})
	}
	wantPlaces(t, alone(zero(-1, 200), zero(-1, 56), zero(-1, 0)), spot{0, 0}, spot{0, 200}, spot{0, 0})
	wantNoPlaces(t, alone(zero(-1, 200), zero(-1, 57)), impl.LkPlace)
	wantNoPlaces(t, alone(zero(-1, 200), zero(-1, 56), zero(-1, 1)), impl.LkPlace)
}

func TestSectionsThatAreToldWhere(t *testing.T) {
	for kind, base := range baseOfKind {
		at := func(bank, addr int64, size int) impl.Section {
			if kind != impl.SeBank {
				bank = -1
			}
			return sized(int64(kind), bank, addr, size)
		}
		bank := set(3, kind == impl.SeBank)
		for _, addr := range []int64{base, base + 1, base + 100, base + 246} {
			// With one Addr, side by side, and with one byte together.
			wantNoPlaces(t, alone(at(3, addr, 5), at(3, addr, 5)), impl.LkPlace)
			wantNoPlaces(t, objects{objectOf(at(3, addr, 5)), objectOf(at(3, addr, 1))}, impl.LkPlace)
			wantPlaces(t, alone(at(3, addr, 5), at(3, addr+5, 5)), spot{bank, addr}, spot{bank, addr + 5})
			wantPlaces(t, objects{objectOf(at(3, addr+5, 5)), {}, objectOf(at(3, addr, 5))}, spot{bank, addr + 5}, spot{bank, addr})
			wantNoPlaces(t, alone(at(3, addr, 6), at(3, addr+5, 5)), impl.LkPlace)
			wantNoPlaces(t, alone(at(3, addr+4, 6), at(3, addr, 5)), impl.LkPlace)
			wantNoPlaces(t, alone(at(3, addr, 9), at(3, addr+4, 1)), impl.LkPlace)
			wantNoPlaces(t, alone(at(3, addr+4, 1), at(3, addr, 9)), impl.LkPlace)
		}
		// One with an Addr takes its place ahead of all without.
		wantPlaces(t, alone(at(3, -1, 10), at(3, base, 5)), spot{bank, base + 5}, spot{bank, base})
		wantPlaces(t, objects{objectOf(at(3, -1, 10), at(3, -1, 3)), objectOf(at(3, base+3, 5))}, spot{bank, base + 8}, spot{bank, base}, spot{bank, base + 3})
		wantPlaces(t, objects{objectOf(at(3, -1, 4), at(3, -1, 3)), objectOf(at(3, base+3, 5)), objectOf(at(3, base+9, 5))}, spot{bank, base + 14}, spot{bank, base}, spot{bank, base + 3}, spot{bank, base + 9})
		wantNoPlaces(t, alone(at(3, -1, 128), at(3, base+128, 1), at(3, -1, 128)), impl.LkPlace)
		wantNoPlaces(t, alone(at(3, -1, 200), at(3, base+100, 1)), impl.LkPlace)
		wantPlaces(t, alone(at(3, -1, 128), at(3, base+128, 1), at(3, -1, 127)), spot{bank, base}, spot{bank, base + 128}, spot{bank, base + 129})
		wantPlaces(t, alone(at(3, -1, 1), at(3, base, 255)), spot{bank, base + 255}, spot{bank, base})
	}
	// Bytes of one bank are none of another's, and those of work none of the first bank's.
	wantPlaces(t, alone(zero(0, 256), worked(49152, 256), banked(1, 256, 256), banked(2, 256, 256), banked(15, 256, 256)), spot{0, 0}, spot{0, 49152}, spot{1, 256}, spot{2, 256}, spot{15, 256})
}

func TestSectionsOfBanks(t *testing.T) {
	// With an Addr and no Bank, with a Bank and no Addr, with both, with neither.
	wantPlaces(t, alone(banked(-1, 300, 5), banked(4, -1, 5), banked(4, 300, 5), banked(-1, -1, 5)), spot{1, 300}, spot{4, 256}, spot{4, 300}, spot{1, 256})
	wantPlaces(t, alone(banked(-1, 300, 5), banked(-1, 304, 5), banked(-1, 304, 5), banked(-1, 305, 1)), spot{1, 300}, spot{2, 304}, spot{3, 304}, spot{1, 305})
	// One without a Bank does not go ahead of those that have neither, but one with both does.
	wantPlaces(t, alone(banked(-1, -1, 60), banked(-1, 300, 5)), spot{1, 256}, spot{2, 300})
	wantPlaces(t, alone(banked(-1, 300, 5), banked(-1, -1, 60)), spot{1, 300}, spot{1, 305})
	wantPlaces(t, alone(banked(-1, -1, 60), banked(1, 300, 5)), spot{1, 305}, spot{1, 300})
	wantPlaces(t, alone(banked(2, -1, 60), banked(-1, -1, 250), banked(-1, -1, 250), banked(2, 256, 1)), spot{2, 257}, spot{1, 256}, spot{3, 256}, spot{2, 256})
	wantPlaces(t, alone(banked(-1, 300, 5), banked(1, 302, 1), banked(2, 304, 1)), spot{3, 300}, spot{1, 302}, spot{2, 304})
	wantPlaces(t, alone(banked(-1, -1, 200), banked(-1, -1, 57), banked(-1, -1, 56), banked(-1, -1, 1)), spot{1, 256}, spot{2, 256}, spot{1, 456}, spot{2, 313})
	wantNoPlaces(t, alone(banked(7, -1, 200), banked(7, -1, 57)), impl.LkPlace)
	// All banks from 1 on, and one more.
	for _, s := range []impl.Section{banked(-1, -1, 256), banked(-1, -1, 129), banked(-1, 300, 1), banked(-1, 300, 212)} {
		full := objects{objectOf(slices.Repeat([]impl.Section{s}, 12)...), objectOf(slices.Repeat([]impl.Section{s}, 3)...)}
		at, code := impl.Placed(full)
		for k, p := range at {
			if p.Bank != int64(k)+1 {
				t.Error(at)
			}
		}
		if code != impl.LkOk || len(at) != 15 {
			t.Error(at, code)
		}
		wantCode(t, impl.LkOk, full...)
		wantNoPlaces(t, append(slices.Clone(full), objectOf(s)), impl.LkPlace)
		wantNoPlaces(t, append(objects{objectOf(s)}, full...), impl.LkPlace)
		wantCode(t, impl.LkOk, append(slices.Clone(full), objectOf(banked(-1, -1, 0), banked(-1, 300, 0)))...)
	}
	every := objects{{}, {}}
	for bank := range int64(15) {
		every[bank%2].Sections = append(every[bank%2].Sections, banked(15-bank, 256, 256))
	}
	wantCode(t, impl.LkOk, every...)
	if rom, _, _ := impl.Linked(every); len(rom) != 4096 || rom[:256] != strings.Repeat("\x00", 256) || rom[256:] != strings.Repeat(banked(1, 256, 256).Data, 15) {
		t.Error("another rom")
	}
	for _, size := range []int{1, 256} {
		wantNoPlaces(t, append(slices.Clone(every), objectOf(banked(-1, -1, size))), impl.LkPlace)
	}
}

func TestWorkOfTwoObjects(t *testing.T) {
	a := linkedSource(t, "section v,work|x: ds 3|y: ds 2|export y|section c,rom0|ld a,[x]")
	b := linkedSource(t, "section v,work|x: ds 4|section w,work,49155|w: ds 2|section c,rom0|ld a,[x]|ld a,[y]|ld a,[w]")
	wantPlaces(t, objects{a, b}, spot{0, 49157}, spot{0, 0}, spot{0, 49162}, spot{0, 49155}, spot{0, 3})
	rom, outs, code := impl.Linked(objects{a, b})
	if code != impl.LkOk || rom[:12] != "\xfa\x05\xc0\xfa\x0a\xc0\xfa\x08\xc0\xfa\x03\xc0" || !slices.Equal(outs, []impl.Sym{{Name: "y", Value: 49160}}) {
		t.Errorf("%q %v %d", rom[:12], outs, code)
	}
	wantCode(t, impl.LkPlace, objectOf(worked(-1, 128)), objectOf(worked(-1, 129)))
	wantCode(t, impl.LkOk, objectOf(worked(-1, 128)), objectOf(worked(-1, 128)))
}

func TestPlacesOfSymsFor(t *testing.T) {
	l := objects{linkedSource(t, "section a,rom0|x: nop|y:|section b,romx|zz: nop|def k,-7|export zz"), linkedSource(t, "section c,work|x: ds 5|export x|def j,9")}
	right := places{place(0, 0, 0, 10), place(0, 1, 15, 65535), place(1, 0, 3, 0)}
	want := []impl.Sym{{Name: "k", Value: -7}, {Name: "x", Value: 10}, {Name: "y", Value: 11}, {Name: "zz", Bank: 15, Value: 65535}}
	if syms, code := impl.SymsFor(l, right, 0); code != impl.LkOk || !slices.Equal(syms, want) {
		t.Error(syms, code)
	}
	want = []impl.Sym{{Name: "j", Value: 9}, {Name: "x", Bank: 3}, {Name: "zz", Bank: 15, Value: 65535}}
	if syms, code := impl.SymsFor(l, right, 1); code != impl.LkOk || !slices.Equal(syms, want) {
		t.Error(syms, code)
	}
	refused := func(at places, obj int64) {
		t.Helper()
		wantSymsFor(t, l, at, obj)
		if syms, code := impl.SymsFor(l, at, obj); code != impl.LkForm || syms != nil {
			t.Errorf("SymsFor(.., %v, %d) = %v, %d", at, obj, syms, code)
		}
	}
	for _, obj := range append([]int64{-1, 2, 3, 4}, farNumbers...) {
		refused(right, obj)
		refused(nil, obj)
	}
	for obj := range int64(2) {
		refused(nil, obj)
		for k, p := range right {
			refused(slices.Delete(slices.Clone(right), k, k+1), obj)
			for _, n := range append([]int64{-1, 16, 17, 255, 65535}, farNumbers...) {
				other := p
				other.Bank = n
				refused(slices.Insert(slices.Delete(slices.Clone(right), k, k+1), k, other), obj)
				// The first one counts, also where a right one is behind it.
				refused(slices.Insert(slices.Clone(right), k, other), obj)
				wantSymsFor(t, l, append(slices.Clone(right), other), obj)
			}
			for _, n := range append([]int64{-1, 65537}, farNumbers...) {
				other := p
				other.Addr = n
				refused(slices.Insert(slices.Clone(right), k, other), obj)
				other = p
				other.Obj = n
				refused(slices.Insert(slices.Delete(slices.Clone(right), k, k+1), 0, other), obj)
				other = p
				other.Sect = n
				refused(slices.Insert(slices.Delete(slices.Clone(right), k, k+1), 0, other), obj)
			}
			for _, behind := range (places{place(p.Obj, p.Sect, 7, 77), place(p.Obj, p.Sect, -1, -1), place(p.Obj, 9, -1, -1), place(-1, p.Sect, 16, -1), place(9, 9, -1, 65536)}) {
				wantSymsFor(t, l, append(slices.Clone(right), behind), obj)
				syms, code := impl.SymsFor(l, append(slices.Clone(right), behind), obj)
				plain, _ := impl.SymsFor(l, right, obj)
				if code != impl.LkOk || !slices.Equal(syms, plain) {
					t.Error(behind, syms, code)
				}
			}
			ahead := append(places{place(p.Obj, p.Sect, 7, 77)}, right...)
			wantSymsFor(t, l, ahead, obj)
		}
		turned := slices.Clone(right)
		slices.Reverse(turned)
		syms, code := impl.SymsFor(l, turned, obj)
		if plain, _ := impl.SymsFor(l, right, obj); code != impl.LkOk || !slices.Equal(syms, plain) {
			t.Error(syms, code)
		}
	}
	if syms, code := impl.SymsFor(l, append(places{place(1, 0, 7, 77)}, right...), 1); code != impl.LkOk || syms[1] != (impl.Sym{Name: "x", Bank: 7, Value: 77}) {
		t.Error(syms, code)
	}
	// Without sections no places are asked for.
	if syms, code := impl.SymsFor(objects{{}}, nil, 0); code != impl.LkOk || len(syms) != 0 {
		t.Error(syms, code)
	}
	if _, code := impl.SymsFor(nil, nil, 0); code != impl.LkForm {
		t.Error(code)
	}
	many := append(slices.Repeat(places{place(-1, -1, -1, -1)}, 100000), right...)
	wantSymsFor(t, l, many, 0)
	// A place is the section's whatever the section says of itself, and nothing wraps.
	if syms, code := impl.SymsFor(alonePlus(impl.OSym{Name: "x", At: 256}), places{{Bank: 5, Addr: 65535}}, 0); code != impl.LkOk || syms[0] != (impl.Sym{Name: "x", Bank: 5, Value: 65791}) {
		t.Error(syms, code)
	}
}

// alonePlus is an object of one section of 256 bytes and these symbols.
func alonePlus(syms ...impl.OSym) objects {
	return objects{{Sections: []impl.Section{zero(-1, 256)}, Syms: syms}}
}

func constants(pairs ...any) (o impl.Object) {
	for k := 0; k < len(pairs); k += 2 {
		o.Syms = append(o.Syms, impl.OSym{Name: strings.TrimPrefix(pairs[k].(string), "+"), Sect: -1, At: int64(pairs[k+1].(int)), Out: pairs[k].(string)[0] == '+'})
	}
	return o
}

func TestSymbolsOfOneName(t *testing.T) {
	both := objects{constants("+x", 1), constants("+x", 1)}
	wantCode(t, impl.LkTwice, both...)
	for obj := range int64(2) {
		if syms, code := impl.SymsFor(both, nil, obj); code != impl.LkTwice || syms != nil {
			t.Error(syms, code)
		}
	}
	wantCode(t, impl.LkTwice, constants("+x", 1), impl.Object{}, constants("x", 1), constants("+x", 3))
	wantCode(t, impl.LkTwice, constants("+a", 1, "+z", 2), constants("+b", 1, "+z", 2))
	wantCode(t, impl.LkTwice, linkedSource(t, "section a,rom0|x: nop|export x"), linkedSource(t, "def x,3|export x"))
	wantCode(t, impl.LkOk, constants("x", 1), constants("x", 2), constants("x", 3), constants("+x", 4))
	wantCode(t, impl.LkOk, constants("+x", 1), constants("+y", 1), constants("+xx", 1), constants("+.x", 1))
	// It is told behind the places and ahead of patches and asserts.
	wantCode(t, impl.LkPlace, append(slices.Clone(both), objectOf(zero(0, 1), zero(0, 1)))...)
	wantCode(t, impl.LkTwice, append(slices.Clone(both), linkedSource(t, "section a,rom0|db none,1/0,256|assert 0"))...)
	// Each object sees its own one first, and that of another one where it has none.
	first := linkedSource(t, "section a,rom0|db x,y,w|def x,1|def y,2|def w,3|export x|export w")
	second := linkedSource(t, "section a,rom0|db x,y,w|def x,5|def y,6|export y")
	third := linkedSource(t, "section a,rom0|db x,y,w")
	wantCode(t, impl.LkOk, first, second, third)
	rom, outs, _ := impl.Linked(objects{first, second, third})
	if rom[:10] != "\x01\x02\x03\x05\x06\x03\x01\x06\x03\x00" || !slices.Equal(outs, []impl.Sym{{Name: "w", Value: 3}, {Name: "x", Value: 1}, {Name: "y", Value: 6}}) {
		t.Errorf("%q %v", rom[:10], outs)
	}
	wantCode(t, impl.LkName, third, linkedSource(t, "def x,1|def y,2|def w,3|export x|export y"))
	// What is out of one object is asked for by no one else's own.
	wantCode(t, impl.LkName, linkedSource(t, "assert x"), constants("x", 1))
	wantCode(t, impl.LkOk, linkedSource(t, "assert x"), constants("+x", 1))
}

func TestSymbolsStandByName(t *testing.T) {
	a := constants("+.z", 1, "+_", 2, "a", 3, "+a.", 4, "+a0", 5, "+b", 6)
	b := constants("+.", 7, "+a", 8, "+a.b", 9, "b", 10, "+c", -11)
	wantCode(t, impl.LkOk, a, b)
	want := []string{".", ".z", "_", "a", "a.", "a.b", "a0", "b", "c"}
	_, outs, _ := impl.Linked(objects{a, b})
	names := func(l []impl.Sym) (out []string) {
		for _, s := range l {
			out = append(out, s.Name)
		}
		return out
	}
	if !slices.Equal(names(outs), want) || outs[3].Value != 8 || outs[7].Value != 6 || outs[8] != (impl.Sym{Name: "c", Value: -11}) {
		t.Error(outs)
	}
	for obj, values := range [][2]int64{{3, 6}, {8, 10}} {
		syms, code := impl.SymsFor(objects{a, b}, nil, int64(obj))
		if code != impl.LkOk || !slices.Equal(names(syms), want) || syms[3].Value != values[0] || syms[7].Value != values[1] {
			t.Error(syms, code)
		}
	}
}

func TestConstantsBelowNought(t *testing.T) {
	for _, n := range []int64{math.MinInt32, -65536, -1, 0, 1, math.MaxInt32} {
		o := impl.Object{Syms: []impl.OSym{{Name: "k", Sect: -1, At: n, Out: true}}, Asserts: []eList{nodes(name("k"), num(0), op(impl.ExOr))}}
		wantCode(t, set(impl.LkAssert, n == 0), o)
		o.Asserts = []eList{nodes(bank("k"), num(1), op(impl.ExAdd))}
		if _, outs, _ := impl.Linked(objects{o}); !slices.Equal(outs, []impl.Sym{{Name: "k", Value: n}}) {
			t.Error(outs)
		}
		wantCode(t, impl.LkOk, impl.Object{Asserts: []eList{nodes(bank("k"), num(1), op(impl.ExAdd))}}, o)
	}
	if rom, _, code := impl.Linked(objects{linkedSource(t, "def k,-5|section a,rom0|db k,k*2|dw k,k*1000")}); code != 0 || rom[:6] != "\xfb\xf6\xfb\xff\x78\xec" {
		t.Errorf("%q %d", rom[:6], code)
	}
}

// patched is an object of three bytes in the midst of which a value is filled in, a constant of another object.
func patched(kind int64, value int64) objects {
	s := impl.Section{Name: "s", Bank: -1, Addr: -1, Data: "\x11\x22\x33\x44", Patches: []impl.Patch{{At: 1, Kind: kind, Expr: nodes(name("v"))}}}
	return objects{objectOf(s), {Syms: []impl.OSym{{Name: "v", Sect: -1, At: value, Out: true}}}}
}

func TestWhatIsFilledIn(t *testing.T) {
	for _, r := range []struct {
		kind, least, most int64
		size              int
	}{{impl.PaByte, -128, 255, 1}, {impl.PaWord, -32768, 65535, 2}, {impl.PaRel, -126, 129, 1}} {
		for _, n := range []int64{r.least, r.least + 1, -1, 0, 1, 2, 127, 128, r.most - 1, r.most} {
			if n > r.most {
				continue
			}
			wantCode(t, impl.LkOk, patched(r.kind, n)...)
			v := n
			if r.kind == impl.PaRel {
				v -= 2
			}
			want := "\x11" + string([]byte{byte(v), byte(v >> 8)})[:r.size] + "\x22\x33\x44"[r.size:]
			if rom, _, _ := impl.Linked(patched(r.kind, n)); rom[:4] != want {
				t.Errorf("%d of kind %d: %q, want %q", n, r.kind, rom[:4], want)
			}
		}
		for _, n := range []int64{r.least - 1, r.least - 2, r.most + 1, r.most + 2, -65536, 65536, 131072, math.MinInt32, math.MinInt32 + 1, math.MaxInt32} {
			wantCode(t, impl.LkRange, patched(r.kind, n)...)
		}
	}
	// What is told is what stands there, all bytes else are as they were.
	for n := int64(-128); n < 256; n++ {
		if rom, _, code := impl.Linked(patched(impl.PaByte, n)); code != 0 || rom[:4] != "\x11"+string([]byte{byte(n)})+"\x33\x44" {
			t.Errorf("%d: %q, %d", n, rom[:4], code)
		}
	}
	for n := int64(-32768); n < 65536; n += 97 {
		if rom, _, code := impl.Linked(patched(impl.PaWord, n)); code != 0 || rom[:4] != "\x11"+string([]byte{byte(n), byte(n >> 8)})+"\x44" {
			t.Errorf("%d: %q, %d", n, rom[:4], code)
		}
	}
	// Values wrap in 32 bits as they are reckoned, not as they are filled in.
	wantCode(t, impl.LkOk, linkedSource(t, "section a,rom0|db 65535*65535+65535*2+1+7"))
	wantCode(t, impl.LkRange, linkedSource(t, "section a,rom0|db 65535*65535"))
}

func TestTwoPatchesAtOneByte(t *testing.T) {
	s := zero(-1, 3)
	put := func(at, kind, n int64) impl.Patch { return impl.Patch{At: at, Kind: kind, Expr: nodes(num(n))} }
	for _, r := range []struct {
		patches []impl.Patch
		want    string
	}{
		{[]impl.Patch{put(0, 1, 5), put(0, 1, 6)}, "\x06\x08\x0f"},
		{[]impl.Patch{put(0, 1, 6), put(0, 1, 5)}, "\x05\x08\x0f"},
		{[]impl.Patch{put(0, 2, 0x1234), put(1, 2, 0x5678)}, "\x34\x78\x56"},
		{[]impl.Patch{put(1, 2, 0x5678), put(0, 2, 0x1234)}, "\x34\x12\x56"},
		{[]impl.Patch{put(0, 2, 0x1234), put(1, 1, 0xff), put(2, 3, 3)}, "\x34\xff\x00"},
		{[]impl.Patch{put(2, 3, 0), put(1, 1, 0xff), put(0, 2, 0x1234)}, "\x34\x12\xfd"},
	} {
		s.Patches = r.patches
		wantCode(t, impl.LkOk, objectOf(s))
		if rom, _, _ := impl.Linked(alone(s)); rom[:4] != r.want+"\x00" {
			t.Errorf("%v: %q, want %q", r.patches, rom[:4], r.want)
		}
	}
	s.Patches = slices.Repeat([]impl.Patch{put(1, 1, 9)}, 256)
	wantCode(t, impl.LkOk, objectOf(s))
	s.Patches[255] = put(1, 1, 256)
	wantCode(t, impl.LkRange, objectOf(s))
}

// P11: a jump by a byte leads to what it names; it is run to see where.
func TestJumpsByAByte(t *testing.T) {
	land := func(t *testing.T, o impl.Object, from int64) int64 {
		t.Helper()
		rom, _, code := impl.Linked(objects{o})
		m, ok := impl.MachineNew(rom, impl.CtFive)
		if code != impl.LkOk || !ok {
			t.Fatalf("%s: %d", brief(o), code)
		}
		m.Cpu.Pc = from
		m, c := impl.Step(m)
		if c != impl.RnGo {
			t.Fatal(c)
		}
		return m.Cpu.Pc
	}
	for _, r := range []struct {
		section string
		base    int64
	}{{"rom0", 0}, {"rom0,1", 1}, {"romx", 256}, {"romx,258", 258}, {"romx,256,1", 256}} {
		for n := int64(0); n <= 126; n++ {
			back := linkedSource(t, fmt.Sprintf("section a,%s|x: ds %d|jr x", r.section, n))
			if at := land(t, back, r.base+n); at != r.base {
				t.Fatalf("%d back in %s: to %d", n+2, r.section, at)
			}
		}
		for n := int64(0); n <= 127; n++ {
			ahead := linkedSource(t, fmt.Sprintf("section a,%s|jr nz,x|ds %d|x:", r.section, n))
			if at := land(t, ahead, r.base); at != r.base+2+n {
				t.Fatalf("%d ahead in %s: to %d", n, r.section, at)
			}
		}
		for n := int64(127); n <= 252; n++ {
			wantCode(t, impl.LkRange, linkedSource(t, fmt.Sprintf("section a,%s|x: ds %d|jr x", r.section, n)))
		}
		for n := int64(128); n <= 252; n++ {
			wantCode(t, impl.LkRange, linkedSource(t, fmt.Sprintf("section a,%s|jr x|ds %d|x:", r.section, n)))
		}
	}
	// By its address a jump leads to another section, and from the end of the first bank to the second one.
	rom, _, code := impl.Linked(objects{linkedSource(t, "section a,rom0,254|jr c,x|section b,romx,383|x: jr y|section c,romx,257|y:")})
	if code != impl.LkOk || rom[254:256] != "\x38\x7f" || rom[383:385] != "\x18\x80" {
		t.Errorf("%.300q %d", rom, code)
	}
	wantCode(t, impl.LkRange, linkedSource(t, "section a,rom0,254|jr x|section b,romx,384|x:"))
	wantCode(t, impl.LkOk, linkedSource(t, "section a,rom0,254|jr x|section b,romx,383|x:"))
}

func TestWhatTellsNothing(t *testing.T) {
	for source, code := range map[string]int64{
		"none": 4, "bank(none)": 4, "-none": 4, "none/0": 4, "none+1/0": 4, "1/0+none": 5, "(1/0)*none": 5, "none*(1/0)": 4, "none%0": 4, "0%0-none": 5, "5/(none-none)": 4, "1/0": 5, "1%0": 5, "x/0": 5, "1/(x-x)": 5, "1/0+none/0": 5, "x+none": 4, "256*(1/0)": 5, "256+none": 4, "bank(x)/0+bank(none)": 5, "none+bank(x)/0": 4,
	} {
		for _, line := range []string{"db ", "dw ", "jr ", "jp ", "assert ", "ld a,"} {
			o := linkedSource(t, "section a,rom0|x: nop|"+line+source)
			wantCode(t, code, o)
			wantCode(t, code, impl.Object{}, o, linkedSource(t, "section a,romx|none: nop"))
		}
	}
	// The first one that is not right is told: section by section, patch by patch, then assert by assert.
	wantCode(t, impl.LkName, linkedSource(t, "section a,rom0|db none,256|assert 0"))
	wantCode(t, impl.LkRange, linkedSource(t, "section a,rom0|db 256,none|assert 0"))
	wantCode(t, impl.LkRange, linkedSource(t, "section a,rom0|db 1|section b,romx|db 256|section c,rom0|db none|assert 0"))
	wantCode(t, impl.LkName, linkedSource(t, "section a,romx|db none|section b,rom0,5|db 256"))
	wantCode(t, impl.LkRange, linkedSource(t, "assert 0|section a,rom0|db 256"))
	wantCode(t, impl.LkRange, linkedSource(t, "assert 0|assert none"), linkedSource(t, "section a,rom0|db 256"), linkedSource(t, "section a,rom0|db none"))
	wantCode(t, impl.LkName, linkedSource(t, "assert 1|assert none|assert 0"), linkedSource(t, "assert 0"))
	wantCode(t, impl.LkAssert, linkedSource(t, "assert 1|assert 0|assert none"), linkedSource(t, "assert none"))
	wantCode(t, impl.LkAssert, linkedSource(t, "assert 0"), linkedSource(t, "assert 1/0"))
	wantCode(t, impl.LkRange, linkedSource(t, "assert 1"), linkedSource(t, "assert 1/0|assert 0"))
	// Patches stand in their own order, not in that of their bytes.
	s := zero(-1, 2)
	s.Patches = []impl.Patch{{At: 1, Kind: 1, Expr: nodes(num(256))}, {At: 0, Kind: 1, Expr: nodes(name("none"))}}
	wantCode(t, impl.LkRange, objectOf(s))
	slices.Reverse(s.Patches)
	wantCode(t, impl.LkName, objectOf(s))
}

func TestAssertsThatAreLinked(t *testing.T) {
	for source, code := range map[string]int64{
		"0": 6, "1": 0, "-1": 0, "none": 4, "1/0": 5, "65535": 0, "x": 6, "x+1": 0, "y-1": 6, "y": 0, "bank(x)": 6, "bank(y)": 6, "bank(f)": 0, "f-256": 6, "65535*65535+65535*2+1": 6, "k": 0, "k+3": 6, "256*256": 0, "1<<31": 0, "32768*2": 0,
	} {
		wantCode(t, code, linkedSource(t, "section a,rom0|x: nop|y:|section b,romx|f:|def k,-3|assert "+source))
		wantCode(t, code, linkedSource(t, "section a,rom0|x: nop|y:|section b,romx|f:|def k,-3|assert 1|assert -1|assert "+source+"|assert 5"))
		o := linkedSource(t, "section a,rom0|x: nop|y:|section b,romx|f:|def k,-3|export x|export y|export f|export k")
		wantCode(t, code, o, linkedSource(t, "assert "+source))
		if rom, outs, c := impl.Linked(objects{linkedSource(t, "assert "+source), o}); c != code || code != 0 && (rom != "" || outs != nil) {
			t.Errorf("%q: %d with a rom of %d", source, c, len(rom))
		}
	}
}

func TestBanksOfARom(t *testing.T) {
	for bank, size := range map[int64]int{1: 512, 2: 768, 3: 1024, 9: 2560, 14: 3840, 15: 4096} {
		for _, n := range []int{0, 1, 256} {
			l := alone(banked(bank, -1, n), zero(-1, 3))
			wantCode(t, impl.LkOk, l...)
			if rom, _, _ := impl.Linked(l); len(rom) != size || rom[bank*256:bank*256+int64(n)] != banked(1, -1, n).Data {
				t.Error(bank, n, len(rom))
			}
		}
	}
	for _, l := range []objects{nil, {{}}, alone(zero(-1, 0)), alone(zero(-1, 256)), alone(worked(-1, 256)), alone(banked(-1, -1, 256)), {constants("+x", 5)}} {
		wantCode(t, impl.LkOk, l...)
		if rom, _, _ := impl.Linked(l); len(rom) != 512 {
			t.Error(brief(l), len(rom))
		}
	}
	if rom, _, _ := impl.Linked(alone(zero(-1, 256), banked(-1, -1, 256), worked(-1, 256))); rom != zero(-1, 256).Data+zero(-1, 256).Data {
		t.Errorf("%q", rom)
	}
}

// P11: an instruction in a source, linked, has just its bytes.
func TestInstructionsHaveJustTheirBytes(t *testing.T) {
	for _, i := range allRightIns() {
		text, want := impl.InsText(i), modelBytes(i)
		if strings.HasPrefix(text, "jr ") {
			// In a source it names where it leads to: from behind it, at 130.
			cut := strings.LastIndexAny(text, " ,") + 1
			n, err := strconv.Atoi(text[cut:])
			if err != nil {
				t.Fatal(text)
			}
			text = text[:cut] + strconv.Itoa(130+n)
		}
		o := linkedSource(t, "section a,rom0,128|"+text)
		rom, _, code := impl.Linked(objects{o})
		if code != impl.LkOk || rom[128:128+len(want)] != want || strings.Trim(rom[:128]+rom[128+len(want):], "\x00") != "" {
			t.Fatalf("%q is linked to %q, %d, want %q", text, rom, code, want)
		}
	}
}

// manyOut are four objects with 200 symbols each, all of them Out.
func manyOut() objects {
	l := make(objects, 4)
	for k := range 800 {
		o := &l[k%4]
		o.Syms = append(o.Syms, impl.OSym{Name: fmt.Sprintf("s%03d", k), Sect: -1, At: int64(k % 256), Out: true})
	}
	return l
}

func TestHowManySymbolsAreLinked(t *testing.T) {
	l := manyOut()
	for obj := range l {
		l[obj].Sections = []impl.Section{{Name: "s", Bank: -1, Addr: -1, Data: "xx", Patches: []impl.Patch{{Kind: 1, Expr: nodes(name("s777"))}, {At: 1, Kind: 1, Expr: nodes(name("s000"), bank("s799"), op(impl.ExAdd), num(3), op(impl.ExAdd))}}}}
		l[obj].Asserts = []eList{nodes(name("s500"))}
	}
	wantCode(t, impl.LkOk, l...)
	rom, outs, _ := impl.Linked(l)
	if len(outs) != 800 || rom[:8] != strings.Repeat("\x09\x03", 4) {
		t.Errorf("%d %q", len(outs), rom[:8])
	}
	if back, ok := impl.ReadSyms(impl.SymText(outs)); !ok || !slices.Equal(back, outs) {
		t.Error("symbols do not come back", ok)
	}
	l[3].Asserts = append(l[3].Asserts, nodes(name("s800")))
	wantCode(t, impl.LkName, l...)
	l[3].Asserts[1] = nodes(name("s512"))
	wantCode(t, impl.LkAssert, l...)
	l[3].Asserts[1] = nodes(num(1), name("s512"), op(impl.ExMod))
	wantCode(t, impl.LkRange, l...)
}

var symShape = regexp.MustCompile(`^([0-9A-F]{2}):([0-9A-F]{4}) ([a-z_.][a-z0-9_.]{0,15})\n`)

func modelSymText(l []impl.Sym) string {
	var lines []string
	for k, s := range l {
		if !nameShape.MatchString(s.Name) || s.Bank < 0 || s.Bank > 255 || s.Value < 0 || s.Value > 65535 || k > 0 && strings.Compare(l[k-1].Name, s.Name) >= 0 {
			return ""
		}
		lines = append(lines, fmt.Sprintf("%02X:%04X %s\n", s.Bank, s.Value, s.Name))
	}
	if len(l) > 800 {
		return ""
	}
	return strings.Join(lines, "")
}

func modelReadSyms(text string) (out []impl.Sym, ok bool) {
	for text != "" {
		m := symShape.FindStringSubmatch(text)
		if m == nil {
			return nil, false
		}
		bank, _ := strconv.ParseInt(m[1], 16, 64)
		value, _ := strconv.ParseInt(m[2], 16, 64)
		if len(out) > 0 && out[len(out)-1].Name >= m[3] || len(out) == 800 {
			return nil, false
		}
		out = append(out, impl.Sym{Name: m[3], Bank: bank, Value: value})
		text = text[len(m[0]):]
	}
	return out, true
}

// wantSymText asks for the text, and for the symbols back from it.
func wantSymText(t *testing.T, l []impl.Sym, want string) {
	t.Helper()
	given, all, before := guarded(l, impl.Sym{Name: "mark", Bank: 99, Value: 99})
	if text := impl.SymText(given); text != want || text != modelSymText(l) {
		t.Fatalf("SymText(%s) = %.200q, want %.200q", brief(l), text, want)
	}
	if !slices.Equal(all, before) {
		t.Fatalf("SymText(%s): an argument was written into", brief(l))
	}
	if back, ok := impl.ReadSyms(want); (want != "" || len(l) == 0) && (!ok || !slices.Equal(back, l)) {
		t.Fatalf("%.200q comes back as %s, %v", want, brief(back), ok)
	}
}

func wantNoSyms(t *testing.T, texts ...string) {
	t.Helper()
	for _, s := range texts {
		if l, ok := impl.ReadSyms(s); ok || l != nil {
			t.Errorf("ReadSyms(%.200q) = %s, %v, want none", s, brief(l), ok)
		}
		if _, ok := modelReadSyms(s); ok {
			t.Errorf("the model reads %.200q", s)
		}
	}
}

func TestSymText(t *testing.T) {
	wantSymText(t, nil, "")
	wantSymText(t, []impl.Sym{}, "")
	if l, ok := impl.ReadSyms(""); !ok || len(l) != 0 {
		t.Error(l, ok)
	}
	wantSymText(t, []impl.Sym{{Name: "a"}}, "00:0000 a\n")
	wantSymText(t, []impl.Sym{{Name: "a", Bank: 255, Value: 65535}}, "FF:FFFF a\n")
	wantSymText(t, []impl.Sym{{Name: ".x", Bank: 10, Value: 4096}, {Name: "_", Bank: 16, Value: 15}, {Name: "abcdefghijklmnop", Bank: 171, Value: 0xcdef}, {Name: "f0.1_"}}, "0A:1000 .x\n10:000F _\nAB:CDEF abcdefghijklmnop\n00:0000 f0.1_\n")
	for _, n := range append([]int64{-1, 256, 257}, farNumbers...) {
		for _, s := range []impl.Sym{{Name: "b", Bank: n}, {Name: "b", Bank: n, Value: 5}} {
			wantSymText(t, []impl.Sym{s}, "")
			wantSymText(t, []impl.Sym{{Name: "a"}, s, {Name: "c"}}, "")
		}
	}
	for _, n := range append([]int64{-1, 65537}, farNumbers...) {
		wantSymText(t, []impl.Sym{{Name: "b", Value: n}}, "")
		wantSymText(t, []impl.Sym{{Name: "a"}, {Name: "b"}, {Name: "c", Value: n}}, "")
	}
	for _, s := range wrongNames {
		wantSymText(t, []impl.Sym{{Name: s}}, "")
		wantNoSyms(t, "00:0000 "+s+"\n")
	}
	for _, names := range []string{"b a", "a a", "a b b", "a c b", "aa a", "_ .", "a0 a.", "a2 a10"} {
		var l []impl.Sym
		text := ""
		for _, s := range strings.Fields(names) {
			l = append(l, impl.Sym{Name: s})
			text += "00:0000 " + s + "\n"
		}
		wantSymText(t, l, "")
		wantNoSyms(t, text)
	}
	for bank := range int64(256) {
		wantSymText(t, []impl.Sym{{Name: "x", Bank: bank, Value: bank * 257}}, fmt.Sprintf("%02X:%02X%02X x\n", bank, bank, bank))
	}
}

func TestSymTextAtItsLimit(t *testing.T) {
	var l []impl.Sym
	text := ""
	for k := range int64(1000) {
		if many := len(l); many == 1 || many == 200 || many == 201 || many >= 798 && many < 810 || many == 999 {
			if many <= 800 {
				wantSymText(t, l, text)
			} else {
				wantSymText(t, l, "")
				wantNoSyms(t, text)
			}
		}
		l = append(l, impl.Sym{Name: fmt.Sprintf("abcdefghijklm%03d", k), Bank: k % 256, Value: k * 65})
		text += fmt.Sprintf("%02X:%04X abcdefghijklm%03d\n", k%256, k*65, k)
	}
	wantNoSyms(t, strings.Repeat(text, 1000), strings.Repeat("\n", 1000000), strings.Repeat("0", 1000000), "00:0000 "+strings.Repeat("a", 1000000)+"\n")
}

func TestReadSymsWrong(t *testing.T) {
	wantNoSyms(t, "\n", " ", "x", "00:0000 a", "00:0000 a\n\n", "\n00:0000 a\n", "00:0000 a\n00:0000 b", "00:0000 a\n00:0000 b\n ", "00:0000 a\r\n",
		"00:000a a\n", "0a:0000 a\n", "00:00G0 a\n", "0G:0000 a\n", "0:0000 a\n", "000:0000 a\n", "00:000 a\n", "00:00000 a\n", ":0000 a\n", "00: a\n", "00:0000\n", "00:0000 \n", "00:0000a\n", "0000000 a\n", "00;0000 a\n", "00 0000 a\n", "00:0000:a\n", "00:0000_a\n", "00:0000\ta\n",
		" 00:0000 a\n", "00:0000 a \n", "00:0000  a\n", "00 :0000 a\n", "00: 0000 a\n", "0 :0000 a\n", " 0:0000 a\n", "00: 000 a\n", "00:000  a\n", "-1:0000 a\n", "00:-001 a\n", "+1:0000 a\n", "$0:0000 a\n", "00:$000 a\n", "%1:0000 a\n", "00:%101 a\n", "00:0000 a b\n", "00:0000 A\n", "00:0000 1\n", "00:0000 a;b\n",
		"00:0000 b\n00:0000 a\n", "00:0000 a\n00:0000 a\n", "00:0000 a\n00:0001 a\n", "\x80\x80:0000 a\n", "00:0000 \xff\n", "00:0000\x00a\n", "\xff", "\x00", "00:0000 a\x00\n", "٣٣:0000 a\n")
	for at := range len("1A:2B3C x.y\n") {
		for v := range 256 {
			text := changed("1A:2B3C x.y\n", int64(at), byte(v))
			want, ok := modelReadSyms(text)
			if l, is := impl.ReadSyms(text); is != ok || !slices.Equal(l, want) {
				t.Errorf("ReadSyms(%q) = %v, %v, want %v, %v", text, l, is, want, ok)
			}
		}
	}
}

func someSyms(d *dice) []impl.Sym {
	taken := map[string]bool{}
	var l []impl.Sym
	for range d.below([]int{3, 10, 801}[d.below(3)]) {
		s := impl.Sym{Name: someOf(d, "a", "b", ".", "_", "main", "x.y", "z") + someOf(d, "", "0", ".x", "_") + strconv.Itoa(d.below(3000)), Bank: int64(d.below(256)), Value: int64(d.below(65536))}
		if !taken[s.Name] {
			l = append(l, s)
		}
		taken[s.Name] = true
	}
	return byName(l)
}

// P11: right symbols come back from their text.
func TestSymbolsComeBackFromTheirText(t *testing.T) {
	d := dice(111)
	right := 0
	for range 1500 {
		l := someSyms(&d)
		text := modelSymText(l)
		wantSymText(t, l, text)
		for range 3 {
			text = strings.Replace(spoiledText(&d, text), "assert 7\n", someOf(&d, "00:0000 x\n", "FF:FFFF zz\n"), 1)
			want, ok := modelReadSyms(text)
			back, is := impl.ReadSyms(text)
			if is != ok || !slices.Equal(back, want) {
				t.Fatalf("ReadSyms(%q) = %v, %v, want %v, %v", text, back, is, want, ok)
			}
			if ok {
				right++
				wantSymText(t, back, text)
			}
		}
	}
	if right < 200 || right > 4000 {
		t.Error("too few of one kind", right)
	}
}

// someLinkExpr tells something of a byte's size mostly.
func someLinkExpr(d *dice, wild bool) eList {
	one := name(someOf(d, "k", "j", "x", "y", "main", ".x", "p0", "p1", "p2"))
	switch d.below(8) {
	case 0, 1:
		return nodes(num(int64(d.below(256))))
	case 2:
		return nodes(one, op(impl.ExLow))
	case 3:
		return nodes(one, num(1), op(impl.ExAdd), op(impl.ExHigh))
	case 4:
		return nodes(bank(one.Name))
	case 5:
		return nodes(one, num(255), op(impl.ExAnd), num(int64(d.below(100))), op(impl.ExSub))
	}
	if !wild {
		return nodes(num(int64(d.below(100))), op(impl.ExNeg))
	}
	if d.below(2) == 0 {
		return nodes(one)
	}
	return someExpr(d)
}

func someLinkSection(d *dice, wild bool) impl.Section {
	kind := int64(d.below(3))
	size := []int{0, 1, 2, 3, 10, 20, 60, 128, 256}[d.below(6+d.below(4))]
	s := sized(kind, -1, -1, size)
	if kind == impl.SeBank && d.below(2) == 0 {
		s.Bank = int64(1 + d.below(15))
		if d.below(2) == 0 {
			s.Bank = int64(1 + d.below(2))
		}
	}
	if d.below(3) == 0 {
		s.Addr = baseOfKind[kind] + int64(d.below(257-size))
	}
	if kind == impl.SeWork || size < 2 {
		return s
	}
	for range d.below(6) {
		p := impl.Patch{At: int64(d.below(size - 1)), Kind: int64(1 + d.below(2)), Expr: someLinkExpr(d, wild)}
		// Most jumps lead near to what is a place in the first bank.
		if d.below(4) == 0 && (wild || kind == impl.SeZero && s.Addr >= 0) {
			p.Kind = impl.PaRel
			if s.Addr >= 0 && d.below(4) > 0 {
				p.Expr = nodes(num(max(0, s.Addr+p.At+1-128+int64(d.below(256)))))
			}
		}
		s.Patches = append(s.Patches, p)
	}
	return s
}

// someLinkObject has the symbols for most of what is asked for, or none of them.
func someLinkObject(d *dice, obj int, wild bool) impl.Object {
	var o impl.Object
	for range d.below(5) {
		o.Sections = append(o.Sections, someLinkSection(d, wild))
	}
	for _, s := range []string{".x", "j", "k", "main", "p" + strconv.Itoa(obj), "x", "y"} {
		if obj > 0 && d.below(3) == 0 || wild && d.below(10) == 0 {
			continue
		}
		sym := impl.OSym{Name: s, Sect: int64(d.below(len(o.Sections)+1) - 1), Out: obj == 0 || s[0] == 'p' && len(s) == 2 || wild && d.below(15) == 0}
		if sym.Sect < 0 {
			sym.At = []int64{0, 1, -1, 5, 255, 65535, math.MinInt32, math.MaxInt32}[d.below(8)]
		} else {
			sym.At = int64(d.below(len(o.Sections[sym.Sect].Data) + 1))
		}
		o.Syms = append(o.Syms, sym)
	}
	for range d.below(3) {
		e := nodes(num(int64(1 + d.below(5))))
		if wild {
			e = someLinkExpr(d, true)
		}
		o.Asserts = append(o.Asserts, e)
	}
	if wild && d.below(40) == 0 {
		o.Asserts = append(o.Asserts, nil)
	}
	return o
}

func someLink(d *dice) objects {
	var l objects
	wild := d.below(3) == 0
	for obj := range d.below(5) {
		l = append(l, someLinkObject(d, obj, wild))
	}
	return l
}

func TestLinkedAgainstTheModel(t *testing.T) {
	d := dice(112)
	var told [7]int
	for range 12000 {
		told[wantLinks(t, someLink(&d))]++
	}
	for code, n := range told {
		if n < 100 {
			t.Error("too few told", code, told)
		}
	}
	if told[0] < 3000 {
		t.Error("too few right ones", told)
	}
}

func TestSymsForAgainstTheModel(t *testing.T) {
	d := dice(113)
	var told [4]int
	for range 8000 {
		l := someLink(&d)
		at, _ := modelPlaced(l)
		for range d.below(4) {
			if len(at) == 0 {
				break
			}
			k := d.below(len(at))
			p := place(int64(d.below(6)-1), int64(d.below(6)-1), int64(d.below(18)-1), []int64{-1, 0, 256, 65535, 65536, int64(d.below(65536))}[d.below(6)])
			switch d.below(8) {
			case 0:
				at[k].Bank = p.Bank
			case 1:
				at[k].Addr = p.Addr
			case 2:
				at = slices.Delete(at, k, k+1)
			case 3:
				at = slices.Insert(at, k, p)
			default:
				n := d.below(len(at))
				at[k], at[n] = at[n], at[k]
			}
		}
		obj := int64(d.below(len(l)+2) - 1)
		wantSymsFor(t, l, at, obj)
		_, code := impl.SymsFor(l, at, obj)
		told[code]++
	}
	if told[0] < 1000 || told[1] < 1000 || told[3] < 100 {
		t.Error("too few told", told)
	}
}

// P11: each section is within one bank, where it was told to be, and no two have a byte together.
func TestPlacesAreApart(t *testing.T) {
	d := dice(114)
	placed := 0
	for range 5000 {
		l := someLink(&d)
		at, code := impl.Placed(l)
		if code != impl.LkOk {
			continue
		}
		placed++
		owners := map[spot]int{}
		for k, p := range at {
			s := l[p.Obj].Sections[p.Sect]
			if !modelMayStand(s, p.Bank, p.Addr) {
				t.Fatalf("%s stands at %v", brief(s), p)
			}
			for _, b := range modelSpots(s, p.Bank, p.Addr) {
				if n, there := owners[b]; there {
					t.Fatalf("%v and %v have %v together", at[n], p, b)
				}
				owners[b] = k
			}
		}
	}
	if placed < 2000 {
		t.Error("too few were placed", placed)
	}
}

// P11: what is filled in is what its expression tells; all else is as the sections have it.
func TestRomsAreWhatTheirSectionsSay(t *testing.T) {
	d := dice(115)
	filled := 0
	for range 5000 {
		l := someLink(&d)
		rom, outs, code := impl.Linked(l)
		if code != impl.LkOk {
			if rom != "" || outs != nil {
				t.Fatalf("%d with %q, %v", code, rom, outs)
			}
			continue
		}
		at, _ := impl.Placed(l)
		left := []byte(rom)
		for _, p := range at {
			s := l[p.Obj].Sections[p.Sect]
			if s.Kind == impl.SeWork {
				continue
			}
			syms, _ := impl.SymsFor(l, at, p.Obj)
			from := p.Bank*256 + p.Addr%256
			if p.Addr > 0 && p.Addr%256 == 0 && len(s.Data) == 0 {
				continue
			}
			want := []byte(s.Data)
			for _, x := range s.Patches {
				n, _ := impl.EvalExpr(x.Expr, syms)
				if x.Kind == impl.PaRel {
					n -= p.Addr + x.At + 1
				}
				want[x.At] = byte(n)
				if x.Kind == impl.PaWord {
					want[x.At+1] = byte(n >> 8)
				}
				filled++
			}
			if rom[from:from+int64(len(want))] != string(want) {
				t.Fatalf("%s at %v is %q, want %q", brief(s), p, rom[from:from+int64(len(want))], want)
			}
			clear(left[from : from+int64(len(want))])
		}
		if strings.Trim(string(left), "\x00") != "" {
			t.Fatalf("%s: bytes of no section: %q", brief(l), left)
		}
	}
	if filled < 2000 {
		t.Error("too few were filled", filled)
	}
}

// P19: the same objects give the same answers, each of them new memory.
func TestLinkerAnswersAreNewMemory(t *testing.T) {
	d := dice(116)
	for range 1500 {
		l := someLink(&d)
		at, code := impl.Placed(l)
		rom, outs, code2 := impl.Linked(l)
		syms, code3 := impl.SymsFor(l, at, 0)
		was := []any{slices.Clone(at), slices.Clone(outs), slices.Clone(syms)}
		for range 2 {
			at2, c := impl.Placed(l)
			rom2, outs2, c2 := impl.Linked(l)
			syms2, c3 := impl.SymsFor(l, at, 0)
			if code != c || code2 != c2 || code3 != c3 || rom != rom2 || !slices.Equal(at, at2) || !slices.Equal(outs, outs2) || !slices.Equal(syms, syms2) {
				t.Fatalf("%s: two answers to one question", brief(l))
			}
			for _, list := range [][]impl.Sym{outs2[:cap(outs2)], syms2[:cap(syms2)]} {
				for k := range list {
					list[k] = impl.Sym{Name: "other"}
				}
			}
			for k := range at2[:cap(at2)] {
				at2[:cap(at2)][k] = impl.Place{Obj: 99}
			}
			if !slices.Equal(was[0].(places), at) || !slices.Equal(was[1].([]impl.Sym), outs) || !slices.Equal(was[2].([]impl.Sym), syms) {
				t.Fatalf("%s: two answers share memory", brief(l))
			}
		}
	}
	text := "00:0001 a\n02:0003 b\n"
	first, _ := impl.ReadSyms(text)
	second, _ := impl.ReadSyms(text)
	first[0].Name = "other"
	if third, _ := impl.ReadSyms(text); second[0].Name != "a" || third[0].Name != "a" {
		t.Error("two answers share memory")
	}
}

// P11: sources that are assembled and linked are what the models tell of them.
func TestSourcesThatAreLinked(t *testing.T) {
	d := dice(117)
	linked := 0
	for range 6000 {
		var l objects
		for range 1 + d.below(3) {
			if o, code, _ := impl.Assembled(someAsmSource(&d)); code == impl.AsOk {
				l = append(l, o)
			}
		}
		if wantLinks(t, l) == impl.LkOk && len(l) > 0 {
			linked++
		}
	}
	if linked < 100 {
		t.Error("too few were linked", linked)
	}
}
