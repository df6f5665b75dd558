package tests

import (
	"fmt"
	"math"
	"reflect"
	"slices"
	"strings"
	"sync"
	"testing"

	"loop.example/g00460/impl"
)

type stops = []impl.Stop

// stopsOf takes a bank and its address, one stop behind the other.
func stopsOf(list ...int64) (out stops) {
	for k := 0; k < len(list); k += 2 {
		out = append(out, impl.Stop{Bank: list[k], Addr: list[k+1]})
	}
	return out
}

var noStop = impl.Stop{Bank: -1, Addr: -1}

func modelAt(k *modelMachine) impl.Stop {
	bank := int64(-1)
	switch k.pc >> 8 {
	case 0:
		bank = 0
	case 1:
		bank = int64(k.cart.bank) % int64(len(k.cart.rom)/256)
	}
	return impl.Stop{Bank: bank, Addr: int64(k.pc)}
}

func modelRunTo(m impl.Machine, at stops, n int64) (impl.Machine, int64, int64) {
	if !impl.MachineOk(m) || n < 0 || n > 500 || len(at) > 20 {
		return impl.Machine{}, 3, 0
	}
	model, behind := modelMachineOf(m), m
	for steps := range n {
		if code := model.step(); code != 0 {
			return behind, code, steps
		}
		behind = model.machine()
		behind.Out = slices.Clone(behind.Out)
		for _, stop := range at {
			if stop == modelAt(model) {
				return behind, 0, steps + 1
			}
		}
	}
	return behind, 0, n
}

func modelTrace(m impl.Machine, n int64) (lines []string) {
	if !impl.MachineOk(m) || n < 0 || n > 100 {
		return nil
	}
	model := modelMachineOf(m)
	for range n {
		at := modelAt(model)
		bank := "--"
		if at.Bank >= 0 {
			bank = fmt.Sprintf("%02X", at.Bank)
		}
		i, _ := impl.ReadIns(string([]byte{model.read(model.pc), model.read(model.pc + 1), model.read(model.pc + 2)}), 0)
		if model.step() != impl.RnGo {
			return lines
		}
		lines = append(lines, fmt.Sprintf("%s:%04X %s", bank, at.Addr, modelText(i)))
	}
	return lines
}

// wantRunTo asks for what the model tells, twice, and for P17: it is so many steps of RunFor.
func wantRunTo(t *testing.T, m impl.Machine, at stops, n int64) (impl.Machine, int64, int64) {
	t.Helper()
	out, allOut, wasOut := guarded(m.Out, int64(77))
	given, all, was := guarded(at, impl.Stop{Bank: 99, Addr: 99})
	m.Out = out
	before := m
	want, code, steps := modelRunTo(m, at, n)
	for range 2 {
		got, c, s := impl.RunTo(m, given, n)
		if c != code || s != steps || !sameMachine(got, want) {
			t.Fatalf("RunTo(%v, %v, %d) = %v, %d, %d, want %v, %d, %d", m.Cpu, at, n, got.Cpu, c, s, want.Cpu, code, steps)
		}
		for k := range got.Out[:cap(got.Out)] {
			got.Out[:cap(got.Out)][k] = 99
		}
		if !reflect.DeepEqual(m, before) || !slices.Equal(allOut, wasOut) || !slices.Equal(all, was) {
			t.Fatalf("RunTo(%v, %v, %d): an argument was written into, or shares memory with the answer", m.Cpu, at, n)
		}
	}
	if code == impl.RnWrong {
		if steps != 0 || !sameMachine(want, impl.Machine{}) {
			t.Fatalf("RunTo(%v, %v, %d) tells something beside RnWrong", m.Cpu, at, n)
		}
		return want, code, steps
	}
	if same, c, s := impl.RunFor(m, steps); c != impl.RnGo || s != steps || !sameMachine(same, want) {
		t.Fatalf("RunTo(%v, %v, %d) is not %d steps", m.Cpu, at, n, steps)
	}
	if code != impl.RnGo {
		if _, c, s := impl.RunFor(m, n); c != code || s != steps {
			t.Fatalf("RunTo(%v, %v, %d) ends with %d, RunFor with %d", m.Cpu, at, n, code, c)
		}
	}
	return want, code, steps
}

func wantStopped(t *testing.T, m impl.Machine, at stops, n int64, code, steps int64) impl.Machine {
	t.Helper()
	got, c, s := wantRunTo(t, m, at, n)
	if c != code || s != steps {
		t.Errorf("RunTo(%v, %v, %d) tells %d behind %d steps, want %d behind %d", m.Cpu, at, n, c, s, code, steps)
	}
	return got
}

// wantTraced asks for what the model tells, twice, and for P17: a line for each step of RunFor.
func wantTraced(t *testing.T, m impl.Machine, n int64) []string {
	t.Helper()
	out, allOut, wasOut := guarded(m.Out, int64(77))
	m.Out = out
	before := m
	want := modelTrace(m, n)
	for range 2 {
		got := impl.TraceOf(m, n)
		if !slices.Equal(got, want) {
			t.Fatalf("TraceOf(%v, %d) = %q, want %q", m.Cpu, n, got, want)
		}
		for k := range got[:cap(got)] {
			got[:cap(got)][k] = "other"
		}
		if !reflect.DeepEqual(m, before) || !slices.Equal(allOut, wasOut) {
			t.Fatalf("TraceOf(%v, %d): the argument was written into", m.Cpu, n)
		}
	}
	if _, code, steps := impl.RunFor(m, n); code != impl.RnWrong && n <= 100 && steps != int64(len(want)) {
		t.Fatalf("TraceOf(%v, %d) has %d lines, and RunFor %d steps", m.Cpu, n, len(want), steps)
	}
	return want
}

func wantLines(t *testing.T, m impl.Machine, n int64, lines ...string) {
	t.Helper()
	if got := wantTraced(t, m, n); !slices.Equal(got, lines) {
		t.Errorf("TraceOf(%v, %d) = %q, want %q", m.Cpu, n, got, lines)
	}
}

// wrongMachines are each wrong in one field.
func wrongMachines(t *testing.T) (out []impl.Machine) {
	for _, change := range []func(m *impl.Machine){
		func(m *impl.Machine) { *m = impl.Machine{} }, func(m *impl.Machine) { m.Cpu.A = 256 },
		func(m *impl.Machine) { m.Cpu.F = 1 }, func(m *impl.Machine) { m.Cpu.Pc = -1 },
		func(m *impl.Machine) { m.Cpu.Pc = 65536 }, func(m *impl.Machine) { m.Cpu.Sp = 65536 },
		func(m *impl.Machine) { m.Cart.Kind = 3 }, func(m *impl.Machine) { m.Cart.Bank = 256 },
		func(m *impl.Machine) { m.Cart.Rom = m.Cart.Rom[:256] }, func(m *impl.Machine) { m.Cart.Rom = "" },
		func(m *impl.Machine) { m.Cart.Ram = "" }, func(m *impl.Machine) { m.Work = m.Work[1:] },
		func(m *impl.Machine) { m.High += "x" }, func(m *impl.Machine) { m.Out = make([]int64, 101) },
		func(m *impl.Machine) { m.Out = []int64{256} }, func(m *impl.Machine) { m.Cycles = -1 },
		func(m *impl.Machine) { m.Cycles = 1e9 + 1 }, func(m *impl.Machine) { m.Cpu.Pc = math.MinInt64 },
		func(m *impl.Machine) { m.Cpu.Pc = math.MaxInt64 }, func(m *impl.Machine) { m.Cart.RamBank = 4 },
	} {
		m := machineOf(t, impl.CtFive, 0x3c, 0x18, 0xfd)
		change(&m)
		out = append(out, m)
	}
	return out
}

// numberedRom has in each byte the number of its bank.
func numberedRom(banks int) string {
	rom := ""
	for k := range banks {
		rom += strings.Repeat(string([]byte{byte(k)}), 256)
	}
	return rom
}

func wantAt(t *testing.T, m impl.Machine, bank, addr int64) {
	t.Helper()
	out, all, was := guarded(m.Out, int64(77))
	m.Out = out
	before := m
	for range 2 {
		if got := impl.At(m); got != (impl.Stop{Bank: bank, Addr: addr}) {
			t.Fatalf("At(%v) = %v, want %d, %d", m.Cpu, got, bank, addr)
		}
	}
	if !reflect.DeepEqual(m, before) || !slices.Equal(all, was) {
		t.Fatalf("At(%v): the argument was written into", m.Cpu)
	}
}

func TestAtInEachBank(t *testing.T) {
	for _, kind := range allKinds {
		for banks := 2; banks <= 16; banks++ {
			m, _ := impl.MachineNew(numberedRom(banks), kind)
			for v := range int64(256) {
				m.Cart.Bank = map[int64]int64{impl.CtPlain: 1, impl.CtOne: max(1, v%32), impl.CtFive: v}[kind]
				for _, pc := range []int64{0, 1, 255, 256, 257, 510, 511} {
					m.Cpu.Pc = pc
					// In this rom what is read tells in which bank it is.
					wantAt(t, m, impl.BusRead(m, pc), pc)
				}
			}
		}
	}
}

func TestAtByPc(t *testing.T) {
	m, _ := impl.MachineNew(numberedRom(5), impl.CtFive)
	m.Cart.Bank, m.Out = 8, []int64{1, 2}
	for pc, bank := range map[int64]int64{0: 0, 1: 0, 255: 0, 256: 3, 257: 3, 511: 3, 512: -1, 513: -1, 40960: -1, 49151: -1, 49152: -1, 49407: -1, 65281: -1, 65408: -1, 65535: -1} {
		m.Cpu.Pc = pc
		wantAt(t, m, bank, pc)
	}
	// The first bank, where another one is asked for, is told as 0 in both places.
	m.Cart.Bank = 0
	for _, pc := range []int64{0, 255, 256, 511} {
		m.Cpu.Pc = pc
		wantAt(t, m, 0, pc)
	}
	m.Cpu.Halted, m.Cycles = true, impl.MaxCycles
	wantAt(t, m, 0, 511)
}

func TestAtOfEachPc(t *testing.T) {
	m := machineOf(t, impl.CtPlain)
	for pc := range int64(65536) {
		m.Cpu.Pc = pc
		want := impl.Stop{Bank: -1, Addr: pc}
		if pc < 512 {
			want.Bank = pc / 256
		}
		if got := impl.At(m); got != want {
			t.Fatalf("At with Pc %d = %v", pc, got)
		}
	}
}

func TestLookingOnMachinesThatAreNotRight(t *testing.T) {
	for _, m := range wrongMachines(t) {
		wantAt(t, m, -1, -1)
		for _, n := range []int64{-1, 0, 1, 5, 100, 101, 500, 501} {
			wantStopped(t, m, nil, n, impl.RnWrong, 0)
			wantStopped(t, m, stops{noStop, {}}, n, impl.RnWrong, 0)
			wantLines(t, m, n)
		}
	}
}

// roundMachine goes round and round in nine steps, by the first bank, the mapped one, which is A modulo banks from 1 on, work and high.
func roundMachine(t *testing.T, kind int64, banks int) impl.Machine {
	t.Helper()
	b := make([]byte, banks*256)
	copy(b, "\x3c\xea\x80\x00\xc3\x00\x01")
	for k := 1; k < banks; k++ {
		copy(b[k*256:], "\x04\xc3\x00\xc0")
	}
	m, ok := impl.MachineNew(string(b), kind)
	if !ok {
		t.Fatal("no machine")
	}
	m.Work = "\x0c\xc3\x80\xff" + m.Work[4:]
	m.High = "\x18\x00\xc3\x00\x00" + m.High[5:]
	return m
}

// roundStops are where it is behind its steps in the first round.
var roundStops = stopsOf(0, 1, 0, 4, 1, 256, 1, 257, -1, 49152, -1, 49153, -1, 65408, -1, 65410, 0, 0)

func TestRunsToEachStop(t *testing.T) {
	m := roundMachine(t, impl.CtFive, 4)
	for k, stop := range roundStops {
		steps := int64(k) + 1
		at := wantStopped(t, m, stops{stop}, 50, impl.RnGo, steps)
		if impl.At(at) != stop {
			t.Errorf("stopped at %v, want %v", impl.At(at), stop)
		}
		// It is met behind the last one of n, or not met by one step.
		wantStopped(t, m, stops{stop}, steps, impl.RnGo, steps)
		at = wantStopped(t, m, stops{stop}, steps-1, impl.RnGo, steps-1)
		wantStopped(t, at, stops{stop}, 1, impl.RnGo, 1)
	}
}

func TestStopWhereItIsAtTheBeginning(t *testing.T) {
	m := roundMachine(t, impl.CtFive, 16)
	if impl.At(m) != (impl.Stop{}) {
		t.Fatal(impl.At(m))
	}
	wantStopped(t, m, stops{{}}, 500, impl.RnGo, 9)
	wantStopped(t, m, stops{{}}, 9, impl.RnGo, 9)
	wantStopped(t, m, stops{{}}, 8, impl.RnGo, 8)
	wantStopped(t, m, stops{{}}, 0, impl.RnGo, 0)
	// Round in one step.
	loop := machineOf(t, impl.CtPlain, 0x18, 0xfe)
	for _, n := range []int64{1, 2, 500} {
		wantStopped(t, loop, stops{{}}, n, impl.RnGo, 1)
	}
	wantStopped(t, loop, stops{{}}, 0, impl.RnGo, 0)
	wantStopped(t, loop, nil, 500, impl.RnGo, 500)
	// From stop to stop.
	at, total := m, int64(0)
	for range 5 {
		next, code, steps := wantRunTo(t, at, stopsOf(0, 0, -1, 49152), 500)
		if code != impl.RnGo || steps != 5 && steps != 4 {
			t.Fatal(code, steps)
		}
		at, total = next, total+steps
	}
	if same, _, _ := impl.RunFor(m, total); !sameMachine(same, at) || total != 23 {
		t.Error("from stop to stop it is elsewhere", total)
	}
}

func TestStopsInBanks(t *testing.T) {
	m := roundMachine(t, impl.CtFive, 5)
	for bank := int64(1); bank < 5; bank++ {
		at := wantStopped(t, m, stops{{Bank: bank, Addr: 257}}, 500, impl.RnGo, 9*(bank-1)+4)
		if at.Cart.Bank != bank || at.Cpu.A != bank {
			t.Error(bank, at.Cart.Bank)
		}
	}
	// Where there is no bank of the number that was asked for, that of the one that is seen counts.
	m.Cpu.A = 7
	at := wantStopped(t, m, stopsOf(8, 256), 9, impl.RnGo, 9)
	if at.Cart.Bank != 8 {
		t.Error(at.Cart.Bank)
	}
	wantStopped(t, m, stopsOf(8, 256, 3, 256), 9, impl.RnGo, 3)
}

func TestStopsThatNoMachineIsAt(t *testing.T) {
	m := roundMachine(t, impl.CtFive, 4)
	for _, stop := range stopsOf(-1, -1, -1, 0, 1, 0, 2, 4, 0, 256, -1, 256, 4, 256, 16, 256, 257, 256, 0, 49152, 1, 49152, -1, 49151, -1, 65536, 0, 65536, -2, 49152, 0, -1, 0, 2, 0, 255, 1, 255, 255, 65408, math.MaxInt64, math.MaxInt64, math.MinInt64, math.MinInt64, 0, math.MaxInt64, math.MinInt64, 0) {
		// Three rounds: in the fourth one the first bank would be seen behind itself.
		wantStopped(t, m, stops{stop}, 27, impl.RnGo, 27)
		wantStopped(t, m, append(stops{stop}, roundStops[2]), 27, impl.RnGo, 3)
		wantStopped(t, m, stops{roundStops[2], stop}, 27, impl.RnGo, 3)
	}
}

func TestSeveralStops(t *testing.T) {
	m := roundMachine(t, impl.CtFive, 4)
	// The first that is met counts, wherever it stands.
	for k := range roundStops {
		for n := range roundStops {
			wantStopped(t, m, stops{roundStops[k], roundStops[n]}, 20, impl.RnGo, int64(min(k, n))+1)
		}
	}
	wantStopped(t, m, roundStops, 20, impl.RnGo, 1)
	wantStopped(t, m, stops{roundStops[4], roundStops[4]}, 20, impl.RnGo, 5)
	for _, n := range []int{0, 1, 19, 20, 21, 22, 1000} {
		never := slices.Repeat(stops{noStop}, n)
		code, steps := int64(impl.RnGo), int64(20)
		if n > 20 {
			code, steps = impl.RnWrong, 0
		}
		wantStopped(t, m, never, 20, code, steps)
		wantStopped(t, m, slices.Repeat(stops{{Bank: 1, Addr: 256}}, n), 3, code, min(3, steps))
		if n > 0 {
			last := append(never[1:], roundStops[5])
			wantStopped(t, m, last, 20, code, min(6, steps))
			wantStopped(t, m, last, 0, code, 0)
		}
	}
}

func TestRunToByItsNumber(t *testing.T) {
	m := machineOf(t, impl.CtFive, 0x3c, 0xe0, 0x80, 0x18, 0xfb)
	for _, at := range []stops{nil, {}, {noStop}, stopsOf(1, 0), stopsOf(0, 2)} {
		for _, n := range []int64{0, 1, 2, 3, 4, 99, 100, 101, 499, 500} {
			wantStopped(t, m, at, n, impl.RnGo, n)
		}
		for _, n := range append([]int64{-1, -500, 501, 502, 1000, 1 << 32}, noNumbers...) {
			wantStopped(t, m, at, n, impl.RnWrong, 0)
			wantStopped(t, m, stops{{}}, n, impl.RnWrong, 0)
		}
	}
	wantStopped(t, m, stopsOf(0, 3), 500, impl.RnGo, 2)
	wantStopped(t, m, stopsOf(0, 0), 500, impl.RnGo, 3)
	m.Cpu.Pc = 49151
	wantStopped(t, m, stopsOf(-1, 56), 500, impl.RnGo, 500)
}

func TestRunsThatEndAheadOfAStop(t *testing.T) {
	halt := machineOf(t, impl.CtPlain, 0x3c, 0x3c, 0x76, 0x3c)
	wantStopped(t, halt, stopsOf(0, 4), 9, impl.RnHalt, 3)
	at := wantStopped(t, halt, stopsOf(0, 3), 9, impl.RnGo, 3)
	// A step that is not made leads to no stop, also where it is at one.
	wantStopped(t, at, stopsOf(0, 3), 9, impl.RnHalt, 0)
	wantStopped(t, at, stopsOf(0, 3), 0, impl.RnGo, 0)
	wantStopped(t, at, nil, 1, impl.RnHalt, 0)

	illegal := machineOf(t, impl.CtOne, 0x3c, 0x3c, 0xd3)
	wantStopped(t, illegal, stopsOf(0, 3), 9, impl.RnIllegal, 2)
	at = wantStopped(t, illegal, stopsOf(0, 2), 9, impl.RnGo, 2)
	wantStopped(t, at, stopsOf(0, 2), 9, impl.RnIllegal, 0)

	full := machineOf(t, impl.CtFive, 0x3c, 0xe0, 0x01, 0x18, 0xfb)
	at = wantStopped(t, full, stopsOf(0, 7), 500, impl.RnFull, 301)
	if len(at.Out) != 100 || at.Cpu.Pc != 1 {
		t.Error(at.Out, at.Cpu)
	}
	wantStopped(t, at, stopsOf(0, 1), 9, impl.RnFull, 0)
	full.Out = slices.Repeat([]int64{5}, 98)
	wantStopped(t, full, stopsOf(0, 7), 500, impl.RnFull, 7)
	wantStopped(t, full, stopsOf(0, 3), 500, impl.RnGo, 2)

	late := machineOf(t, impl.CtFive, 0x3c, 0x18, 0xfd)
	late.Cycles = impl.MaxCycles - 5
	wantStopped(t, late, stopsOf(0, 3), 500, impl.RnFull, 3)
	wantStopped(t, late, stopsOf(0, 1), 500, impl.RnGo, 1)
	late.Cycles = impl.MaxCycles
	wantStopped(t, late, stopsOf(0, 0), 500, impl.RnFull, 0)
}

func TestTracesByHand(t *testing.T) {
	m := roundMachine(t, impl.CtFive, 3)
	round := []string{"00:0000 inc a", "00:0001 ld [$0080],a", "00:0004 jp $0100", "01:0100 inc b", "01:0101 jp $C000", "--:C000 inc c", "--:C001 jp $FF80", "--:FF80 jr 0", "--:FF82 jp $0000"}
	wantLines(t, m, 9, round...)
	next := slices.Clone(round)
	next[3], next[4] = "02:0100 inc b", "02:0101 jp $C000"
	wantLines(t, m, 18, append(slices.Clone(round), next...)...)
	// All that an instruction may be.
	wantLines(t, machineOf(t, impl.CtPlain, 0x10, 0xaa, 0xcb, 0x7e, 0x20, 0x80, 0x28, 0x7f, 0xf8, 0xff, 0xe0, 0x05, 0x08, 0x34, 0x12, 0xdf), 4,
		"00:0000 stop $AA", "00:0002 bit 7,[hl]", "00:0004 jr nz,-128", "00:0006 jr z,127")
	wantLines(t, machineOf(t, impl.CtPlain, 0x10, 0xaa, 0xcb, 0x7e, 0xf8, 0xff, 0xe0, 0x05, 0x08, 0x34, 0x12, 0xdf, 0xd3), 6,
		"00:0000 stop $AA", "00:0002 bit 7,[hl]", "00:0004 ld hl,sp+-1", "00:0006 ldh [$05],a", "00:0008 ld [$1234],sp", "00:000B rst $18")
}

func TestTracesAtTheBoundsOfBanks(t *testing.T) {
	rom := []byte(numberedRom(16))
	copy(rom[255:], "\xc3")
	copy(rom[15*256:], "\xff\x01")
	rom[15*256+255] = 0x3e
	m, _ := impl.MachineNew(string(rom), impl.CtFive)
	m.Cart.Bank = 15
	m.Cpu.Pc = 255
	wantLines(t, m, 2, "00:00FF jp $01FF", "0F:01FF ld a,$FF")
	m.Cpu.Pc = 511
	wantLines(t, m, 1, "0F:01FF ld a,$FF")
	m.Cpu.Pc = 512
	wantLines(t, m, 1, "--:0200 rst $38")
	m.Cpu.Pc = 65534
	m.High = m.High[:126] + "\x06"
	wantLines(t, m, 2, "--:FFFE ld b,$FF", "00:0000 nop")
	m.Cpu.Pc = 65535
	wantLines(t, m, 1, "--:FFFF rst $38")
	for bank := range int64(16) {
		m.Cart.Bank, m.Cpu.Pc = bank+16, 256+128
		if got := wantTraced(t, m, 1); len(got) == 1 && !strings.HasPrefix(got[0], fmt.Sprintf("%02X:0180 ", bank)) {
			t.Error(bank, got)
		}
	}
}

func TestTracesThatEnd(t *testing.T) {
	inc := func(n int) []string { return []string{"00:0000 inc a", "00:0001 inc a", "00:0002 inc a"}[:n] }
	for _, last := range []byte{0xd3, 0xdb, 0xfd} {
		wantLines(t, machineOf(t, impl.CtFive, last), 5)
		wantLines(t, machineOf(t, impl.CtFive, 0x3c, last), 5, inc(1)...)
		for n := range int64(5) {
			wantLines(t, machineOf(t, impl.CtFive, 0x3c, 0x3c, 0x3c, last), n, inc(min(3, int(n)))...)
		}
	}
	// What halts is a step, what is halted is none.
	halt := machineOf(t, impl.CtFive, 0x3c, 0x76, 0x3c)
	for n, want := range []int{0, 1, 2, 2, 2} {
		wantLines(t, halt, int64(n), []string{"00:0000 inc a", "00:0001 halt"}[:want]...)
	}
	halt.Cpu.Halted = true
	wantLines(t, halt, 9)
	full := machineOf(t, impl.CtFive, 0xe0, 0x01, 0xe0, 0x01)
	full.Out = make([]int64, 99)
	wantLines(t, full, 9, "00:0000 ldh [$01],a")
	full.Out = make([]int64, 100)
	wantLines(t, full, 9)
	late := machineOf(t, impl.CtFive, 0x3c, 0x3c, 0x3c)
	late.Cycles = impl.MaxCycles - 2
	wantLines(t, late, 9, inc(2)...)
}

func TestTraceByItsNumber(t *testing.T) {
	m := roundMachine(t, impl.CtFive, 16)
	for _, n := range []int64{0, 1, 2, 99, 100} {
		if got := wantTraced(t, m, n); int64(len(got)) != n {
			t.Errorf("TraceOf %d has %d lines", n, len(got))
		}
	}
	for _, n := range []int64{-1, -100, 101, 102, 500, 501, 1 << 32, math.MinInt64, math.MaxInt64} {
		wantLines(t, m, n)
	}
	// A shorter one is the beginning of a longer one.
	all := wantTraced(t, m, 100)
	for n := range int64(101) {
		wantLines(t, m, n, all[:n]...)
	}
}

// What is told is what stood there when the step was made.
func TestTraceOfCodeThatChangesItself(t *testing.T) {
	m := machineOf(t, impl.CtFive)
	m.Cpu.Pc = 49152
	m.Cpu.A = 0x04
	m.Work = "\xea\x00\xc0\x18\xfb" + m.Work[5:]
	wantLines(t, m, 4, "--:C000 ld [$C000],a", "--:C003 jr -5", "--:C000 inc b", "--:C001 nop")
}

func someStops(d *dice, m impl.Machine) (out stops) {
	if d.below(3) == 0 {
		return nil
	}
	for range d.below(23) {
		at, _, _ := modelRunTo(m, nil, int64(d.below(40)))
		stop := impl.At(at)
		switch d.below(4) {
		case 0:
			stop.Bank = int64(d.below(18)) - 1
		case 1:
			stop.Addr = int64(d.below(65536))
		case 2:
			stop = stopsOf(-1, -1, 0, 0, -1, 49152, 1, 256)[d.below(4)]
		}
		out = append(out, stop)
	}
	return out
}

// P17, against the model.
func TestLookingOnAgainstTheModel(t *testing.T) {
	d := dice(171)
	codes, early := map[int64]int{}, 0
	for k := range 3000 {
		m := someMachine(&d)
		switch k % 3 {
		case 0:
			m.Cart.Rom = bytesOf(&d, len(m.Cart.Rom))
		case 1:
			m = roundMachine(t, allKinds[d.below(3)], 2+d.below(15))
			m.Cpu.A = someByte(&d)
		case 2:
			m = planted(m, m.Cpu.Pc+int64(d.below(12)), 0x76)
		}
		wantAt(t, m, modelAt(modelMachineOf(m)).Bank, m.Cpu.Pc)
		n := int64(d.below(70))
		at := someStops(&d, m)
		_, code, steps := wantRunTo(t, m, at, n)
		codes[code]++
		early += set1(code == impl.RnGo && steps < n)
		lines := wantTraced(t, m, n)
		less := int64(d.below(int(n) + 1))
		if got := wantTraced(t, m, less); !slices.Equal(got, lines[:min(int(less), len(lines))]) {
			t.Fatalf("a trace of %d is not the beginning of one of %d", less, n)
		}
	}
	if early < 300 || codes[impl.RnGo] < 500 || codes[impl.RnIllegal] < 100 || codes[impl.RnFull] < 100 || codes[impl.RnHalt] < 10 || codes[impl.RnWrong] < 50 {
		t.Error("too few of one kind", early, codes)
	}
}

// P19: the same arguments give the same answers, also at the same time.
func TestLookingOnAtTheSameTime(t *testing.T) {
	m := roundMachine(t, impl.CtFive, 3)
	m.Out = append(make([]int64, 0, 50), 1, 2)
	at := stopsOf(2, 256, -1, -1)
	lines := wantTraced(t, m, 30)
	wrong := make([]string, 8)
	var all sync.WaitGroup
	for k := range wrong {
		all.Go(func() {
			for range 50 {
				_, code, steps := impl.RunTo(m, at, 100)
				if code != impl.RnGo || steps != 12 || impl.At(m) != (impl.Stop{}) || !slices.Equal(impl.TraceOf(m, 30), lines) {
					wrong[k] = fmt.Sprint(code, steps)
				}
			}
		})
	}
	all.Wait()
	if text := strings.Join(wrong, ""); text != "" {
		t.Error(text)
	}
}
