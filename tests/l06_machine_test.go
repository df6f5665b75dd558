package tests

import (
	"math"
	"reflect"
	"slices"
	"strconv"
	"strings"
	"testing"

	"loop.example/g00460/impl"
)

// busPlaces are the ends of all that the bus tells apart.
var busPlaces = append([]int64{49151, 49153, 49406, 49407, 49408, 65279, 65280, 65282, 65407, 65408, 65409, 65533, 65534}, cartPlaces...)

// modelMachine reckons in bytes and words that wrap by themselves, and goes by
// the templates of its instructions, not by the parts of their codes.
type modelMachine struct {
	r           map[string]*uint8
	sp, pc      uint16
	ime, halted bool
	cart        modelCart
	work, high  []byte
	out         []int64
	cycles      int64
	imm         uint16
	full        bool
}

func modelMachineOf(m impl.Machine) *modelMachine {
	c := m.Cpu
	k := &modelMachine{r: map[string]*uint8{}, sp: uint16(c.Sp), pc: uint16(c.Pc), ime: c.Ime, halted: c.Halted, cart: modelCartOf(m.Cart), work: []byte(m.Work), high: []byte(m.High), out: slices.Clone(m.Out), cycles: m.Cycles}
	for name, v := range map[string]int64{"a": c.A, "f": c.F, "b": c.B, "c": c.C, "d": c.D, "e": c.E, "h": c.H, "l": c.L} {
		b := uint8(v)
		k.r[name] = &b
	}
	return k
}

func (k *modelMachine) machine() impl.Machine {
	reg := func(name string) int64 { return int64(*k.r[name]) }
	return impl.Machine{
		Cpu:  impl.Cpu{A: reg("a"), F: reg("f"), B: reg("b"), C: reg("c"), D: reg("d"), E: reg("e"), H: reg("h"), L: reg("l"), Sp: int64(k.sp), Pc: int64(k.pc), Ime: k.ime, Halted: k.halted},
		Cart: k.cart.cart(), Work: string(k.work), High: string(k.high), Out: k.out, Cycles: k.cycles,
	}
}

func (k *modelMachine) read(addr uint16) uint8 {
	switch {
	case addr>>8 == 0xc0:
		return k.work[addr&255]
	case addr >= 0xff80 && addr != 0xffff:
		return k.high[addr&127]
	}
	return k.cart.read(addr)
}

func (k *modelMachine) write(addr uint16, v uint8) {
	switch {
	case addr>>8 == 0xc0:
		k.work[addr&255] = v
	case addr >= 0xff80 && addr != 0xffff:
		k.high[addr&127] = v
	case addr == 0xff01 && len(k.out) == 100:
		k.full = true
	case addr == 0xff01:
		k.out = append(k.out, int64(v))
	default:
		k.cart.write(addr, v)
	}
}

func (k *modelMachine) word(name string) uint16 {
	switch name {
	case "sp":
		return k.sp
	case "n16":
		return k.imm
	}
	return uint16(*k.r[name[:1]])<<8 | uint16(*k.r[name[1:]])
}

func (k *modelMachine) setWord(name string, w uint16) {
	if name == "sp" {
		k.sp = w
		return
	}
	*k.r[name[:1]], *k.r[name[1:]] = uint8(w>>8), uint8(w)
}

// place is where a text in brackets points to; hl moves once it is asked.
func (k *modelMachine) place(inner string) uint16 {
	switch {
	case inner == "n8":
		return 0xff00 | k.imm
	case inner == "c":
		return 0xff00 | uint16(*k.r["c"])
	case inner == "hl+":
		defer k.setWord("hl", k.word("hl")+1)
		return k.word("hl")
	case inner == "hl-":
		defer k.setWord("hl", k.word("hl")-1)
		return k.word("hl")
	}
	return k.word(inner)
}

func (k *modelMachine) get(name string) uint8 {
	switch {
	case name == "n8" || name == "e8":
		return uint8(k.imm)
	case name[0] == '[':
		return k.read(k.place(strings.Trim(name, "[]")))
	}
	return *k.r[name]
}

func (k *modelMachine) set(name string, v uint8) {
	if name[0] == '[' {
		k.write(k.place(strings.Trim(name, "[]")), v)
		return
	}
	*k.r[name] = v
}

func (k *modelMachine) push(w uint16) {
	k.sp--
	k.write(k.sp, uint8(w>>8))
	k.sp--
	k.write(k.sp, uint8(w))
}

func (k *modelMachine) pop() uint16 {
	low := k.read(k.sp)
	k.sp++
	high := k.read(k.sp)
	k.sp++
	return uint16(high)<<8 | uint16(low)
}

func (k *modelMachine) flags(z, n, h, c bool) {
	*k.r["f"] = uint8(set(128, z) | set(64, n) | set(32, h) | set(16, c))
}

func (k *modelMachine) has(flag uint8) bool { return *k.r["f"]&flag != 0 }

func (k *modelMachine) spAndSigned() uint16 {
	b := uint16(int16(int8(k.imm)))
	sum := k.sp + b
	k.flags(false, false, (k.sp^b^sum)&16 != 0, (k.sp^b^sum)&256 != 0)
	return sum
}

var plainTemplates, prefixedTemplates = modelTemplates()

// step answers the code that Step should; where it is not RnGo what it leaves
// behind is of no use.
func (k *modelMachine) step() int64 {
	if k.halted {
		return impl.RnHalt
	}
	plain, prefixed := &plainTemplates, &prefixedTemplates
	code, low, high := k.read(k.pc), k.read(k.pc+1), k.read(k.pc+2)
	template, cb := plain[code], false
	length := map[int64]uint16{0: 1, 255: 2, 65535: 3}[limitOf(template)]
	k.imm = uint16(low) | uint16(high)<<8
	if length < 3 {
		k.imm = uint16(low)
	}
	if code == 203 {
		template, cb, length, code = prefixed[low], true, 2, low
	} else if template == "" {
		return impl.RnIllegal
	}
	k.pc += length
	op, rest, _ := strings.Cut(template, " ")
	args := strings.Split(rest, ",")
	taken := true
	if slices.Contains([]string{"jr", "jp", "call", "ret"}, op) {
		switch args[0] {
		case "nz", "z":
			taken = k.has(128) == (args[0] == "z")
			args = args[1:]
		case "nc", "c":
			taken = k.has(16) == (args[0] == "c")
			args = args[1:]
		}
	}
	k.cycles += modelCycles(int64(code), cb, taken)
	if taken {
		k.act(op, args)
	}
	if k.full || k.cycles > 1e9 {
		return impl.RnFull
	}
	return impl.RnGo
}

func modelCycles(code int64, cb bool, taken bool) int64 {
	if cb {
		return modelPrefixCycles(code)
	}
	rows := coldRows
	if taken {
		rows = takenRows
	}
	return int64(strings.ReplaceAll(rows, "\n", "")[code] - '0')
}

func (k *modelMachine) act(op string, args []string) {
	a, f := k.r["a"], k.r["f"]
	switch op {
	case "nop", "stop":
	case "halt":
		k.halted = true
	case "di", "ei":
		k.ime = op == "ei"
	case "jr":
		k.pc += uint16(int16(int8(k.imm)))
	case "jp":
		k.pc = k.word(args[0])
	case "call":
		k.push(k.pc)
		k.pc = k.imm
	case "rst":
		at, _ := strconv.ParseUint(args[0][1:], 16, 16)
		k.push(k.pc)
		k.pc = uint16(at)
	case "ret", "reti":
		k.pc = k.pop()
		k.ime = k.ime || op == "reti"
	case "push":
		k.push(k.word(args[0]))
	case "pop":
		k.setWord(args[0], k.pop())
		*f &= 0xf0
	case "ld", "ldh":
		k.load(args[0], args[1])
	case "daa":
		v, g := modelDaa(int64(*a), int64(*f))
		*a, *f = uint8(v), uint8(g)
	case "cpl":
		*a = ^*a
		k.flags(k.has(128), true, true, k.has(16))
	case "scf":
		k.flags(k.has(128), false, false, true)
	case "ccf":
		k.flags(k.has(128), false, false, !k.has(16))
	case "rlca", "rrca", "rla", "rra":
		k.turn(strings.TrimSuffix(op, "a"), "a")
		*f &= 0x7f
	case "inc", "dec":
		k.byOne(op, args[0])
	case "bit", "res", "set":
		k.bit(op, args[0], args[1])
	default:
		k.reckon(op, args)
	}
}

func (k *modelMachine) load(left, right string) {
	switch {
	case left == "[n16]" && right == "sp":
		k.write(k.imm, uint8(k.sp))
		k.write(k.imm+1, uint8(k.sp>>8))
	case right == "sp+e8":
		k.setWord("hl", k.spAndSigned())
	case len(left) == 2:
		k.setWord(left, k.word(right))
	default:
		k.set(left, k.get(right))
	}
}

func (k *modelMachine) turn(op, name string) {
	which := int64(slices.Index(strings.Fields("rlc rrc rl rr sla sra swap srl"), op))
	v, out := modelTurned(which, k.get(name), *k.r["f"]>>4&1)
	k.set(name, v)
	k.flags(v == 0, false, false, out == 1)
}

func (k *modelMachine) byOne(op, name string) {
	by := map[string]uint16{"inc": 1, "dec": 0xffff}[op]
	if len(name) == 2 {
		k.setWord(name, k.word(name)+by)
		return
	}
	old := k.get(name)
	v := old + uint8(by)
	k.set(name, v)
	k.flags(v == 0, op == "dec", old&15 == map[string]uint8{"inc": 15, "dec": 0}[op], k.has(16))
}

func (k *modelMachine) bit(op, which, name string) {
	mask := uint8(1) << (which[0] - '0')
	switch v := k.get(name); op {
	case "bit":
		k.flags(v&mask == 0, false, true, k.has(16))
	case "res":
		k.set(name, v&^mask)
	case "set":
		k.set(name, v|mask)
	}
}

func (k *modelMachine) reckon(op string, args []string) {
	switch {
	case op == "add" && args[0] == "sp":
		k.sp = k.spAndSigned()
	case op == "add" && args[0] == "hl":
		x, y := uint32(k.word("hl")), uint32(k.word(args[1]))
		k.setWord("hl", uint16(x+y))
		k.flags(k.has(128), false, (x^y^(x+y))&4096 != 0, x+y > 65535)
	case len(args) == 1:
		k.turn(op, args[0])
	default:
		which := int64(slices.Index(strings.Fields("add adc sub sbc and xor or cp"), op))
		v, g := modelAlu(which, int64(*k.r["a"]), int64(k.get(args[1])), int64(*k.r["f"]))
		*k.r["a"], *k.r["f"] = uint8(v), uint8(g)
	}
}

func sameMachine(a, b impl.Machine) bool {
	if len(a.Out) == 0 && len(b.Out) == 0 {
		a.Out, b.Out = nil, nil
	}
	return reflect.DeepEqual(a, b)
}

func machineOf(t *testing.T, kind int64, code ...byte) impl.Machine {
	t.Helper()
	rom := make([]byte, 512)
	copy(rom, code)
	m, ok := impl.MachineNew(string(rom), kind)
	if !ok || !impl.MachineOk(m) {
		t.Fatal("no new machine")
	}
	return m
}

func bytesOf(d *dice, n int) string {
	b := make([]byte, n)
	for k := range b {
		b[k] = byte(d.below(256))
	}
	return string(b)
}

func someByte(d *dice) int64 {
	return []int64{0, 1, 15, 16, 127, 128, 255, int64(d.below(256))}[d.below(8)]
}

// somePlace is one at which something is told apart, or any.
func somePlace(d *dice) int64 {
	if d.below(4) == 0 {
		return int64(d.below(65536))
	}
	return busPlaces[d.below(len(busPlaces))]
}

// someMachine is a right one, its fields often at their ends.
func someMachine(d *dice) impl.Machine {
	m := impl.Machine{Cart: someCart(d), Work: bytesOf(d, 256), High: bytesOf(d, 127)}
	c := &m.Cpu
	for _, r := range []*int64{&c.A, &c.B, &c.C, &c.D, &c.E} {
		*r = someByte(d)
	}
	hl, bc := somePlace(d), somePlace(d)
	c.H, c.L = hl/256, hl%256
	if d.below(2) == 0 {
		c.B, c.C = bc/256, bc%256
	}
	c.F = int64(d.below(16)) * 16
	c.Sp = append([]int64{0, 1, 2, 65534, 65535, 65282, 65283}, busPlaces...)[d.below(7+len(busPlaces))]
	c.Pc = []int64{0, 1, 100, 253, 254, 255, 256, 509, 510, 511, 49152, 49405, 49406, 49407, 65408, 65531, 65532, 65533, 65534}[d.below(19)]
	c.Ime = d.below(2) == 0
	m.Cycles = []int64{0, 5, 1e9 - 7, 1e9 - 6, 1e9 - 5, 1e9 - 4, 1e9 - 3, 1e9 - 2, 1e9 - 1, 1e9, int64(d.below(1e9))}[d.below(40)%11]
	for range []int{0, 1, 99, 100, d.below(101)}[d.below(5)] {
		m.Out = append(m.Out, int64(d.below(256)))
	}
	return m
}

func changed(s string, at int64, v byte) string {
	b := []byte(s)
	b[at] = v
	return string(b)
}

// planted has a byte at a place, as far as a byte can be put there at all.
func planted(m impl.Machine, addr int64, v byte) impl.Machine {
	switch addr &= 65535; {
	case addr < 256:
		m.Cart.Rom = changed(m.Cart.Rom, addr, v)
	case addr < 512:
		m.Cart.Rom = changed(m.Cart.Rom, impl.MappedBank(m.Cart)*256+addr-256, v)
	case addr >= 49152 && addr < 49408:
		m.Work = changed(m.Work, addr-49152, v)
	case addr >= 65408 && addr < 65535:
		m.High = changed(m.High, addr-65408, v)
	}
	return m
}

func plantedIns(m impl.Machine, bytes ...byte) impl.Machine {
	for k, v := range bytes {
		m = planted(m, m.Cpu.Pc+int64(k), v)
	}
	return m
}

// wantStep holds a step against the model, and against what P6 promises.
func wantStep(t *testing.T, m impl.Machine) int64 {
	t.Helper()
	var all, was []int64
	m.Out, all, was = guarded(m.Out, int64(77))
	given := m
	next, code := impl.Step(m)
	if !sameMachine(m, given) || !slices.Equal(all, was) {
		t.Fatalf("Step writes into what it was given: %v", m.Cpu)
	}
	model := modelMachineOf(m)
	want := model.step()
	if code != want {
		t.Fatalf("Step tells %d, want %d: %v", code, want, m.Cpu)
	}
	if code != impl.RnGo {
		if !sameMachine(next, m) {
			t.Fatalf("Step tells %d, and does not leave it as it was: %v, now %v", code, m.Cpu, next.Cpu)
		}
		return code
	}
	if !impl.MachineOk(next) || next.Cycles <= m.Cycles {
		t.Fatalf("Step leaves no right machine, or takes no time: %v", next.Cpu)
	}
	if !sameMachine(next, model.machine()) {
		t.Fatalf("Step of %v leaves %v %d %v, want %v %d %v", m.Cpu, next.Cpu, next.Cycles, next.Out, model.machine().Cpu, model.cycles, model.out)
	}
	return code
}

// P6: a step leaves a right machine and takes time, one that is not made
// leaves it as it was; and each instruction does what it says.
func TestEachInstructionAgainstTheModel(t *testing.T) {
	d := dice(61)
	codes := map[int64]int{}
	for code := range 256 {
		for range 150 {
			m := plantedIns(someMachine(&d), byte(code), byte(someByte(&d)), byte(someByte(&d)))
			codes[wantStep(t, m)]++
		}
		for range 40 {
			m := plantedIns(someMachine(&d), 203, byte(code), byte(d.below(256)))
			codes[wantStep(t, m)]++
		}
	}
	for _, code := range []int64{impl.RnGo, impl.RnIllegal, impl.RnFull} {
		if codes[code] < 100 {
			t.Errorf("only %d steps tell %d", codes[code], code)
		}
	}
}

// Words that stand in an instruction point to each place, too.
func TestInstructionsWithPlacesAgainstTheModel(t *testing.T) {
	d := dice(62)
	for _, code := range []byte{0x08, 0xea, 0xfa, 0xc3, 0xcd, 0xc2, 0xca, 0xd2, 0xda, 0xc4, 0xcc, 0xd4, 0xdc, 0x01, 0x11, 0x21, 0x31} {
		for _, addr := range busPlaces {
			for range 6 {
				wantStep(t, plantedIns(someMachine(&d), code, byte(addr), byte(addr>>8)))
			}
		}
	}
	for _, code := range []byte{0xe0, 0xf0, 0xe2, 0xf2, 0x18, 0x20, 0x28, 0x30, 0x38, 0xe8, 0xf8} {
		for v := range int64(256) {
			m := plantedIns(someMachine(&d), code, byte(v))
			m.Cpu.C = v
			wantStep(t, m)
		}
	}
}

func TestRunsAgainstTheModel(t *testing.T) {
	d := dice(63)
	for range 150 {
		m := someMachine(&d)
		m.Cart.Rom = bytesOf(&d, len(m.Cart.Rom))
		model := modelMachineOf(m)
		n := int64(d.below(60))
		want, steps, code := m, int64(0), int64(impl.RnGo)
		for code == impl.RnGo && steps < n {
			if code = model.step(); code == impl.RnGo {
				want = model.machine()
				want.Out = slices.Clone(want.Out)
				steps++
			}
		}
		got, gotCode, gotSteps := impl.RunFor(m, n)
		if gotCode != code || gotSteps != steps || !sameMachine(got, want) {
			t.Fatalf("RunFor %d tells %d and %d, want %d and %d; %v, want %v", n, gotCode, gotSteps, code, steps, got.Cpu, want.Cpu)
		}
	}
}

func wantMachine(t *testing.T, what string, m impl.Machine, want bool) {
	t.Helper()
	if impl.MachineOk(m) != want {
		t.Errorf("%s: MachineOk is %v", what, !want)
	}
	if want {
		return
	}
	if v := impl.BusRead(m, 0); v != -1 {
		t.Errorf("%s: BusRead is %d", what, v)
	}
	if x, ok := impl.BusWrite(m, 49152, 1); ok || !sameMachine(x, impl.Machine{}) {
		t.Errorf("%s: BusWrite is made", what)
	}
	if x, code := impl.Step(m); code != impl.RnWrong || !sameMachine(x, impl.Machine{}) {
		t.Errorf("%s: Step tells %d", what, code)
	}
	for _, n := range []int64{0, 1, 500} {
		if x, code, steps := impl.RunFor(m, n); code != impl.RnWrong || steps != 0 || !sameMachine(x, impl.Machine{}) {
			t.Errorf("%s: RunFor tells %d, %d", what, code, steps)
		}
	}
}

func TestMachinesAtTheBoundsOfTheirFields(t *testing.T) {
	d := dice(64)
	wantMachine(t, "nothing", impl.Machine{}, false)
	fields := map[string]func(*impl.Machine) *int64{
		"A": func(m *impl.Machine) *int64 { return &m.Cpu.A }, "B": func(m *impl.Machine) *int64 { return &m.Cpu.B },
		"C": func(m *impl.Machine) *int64 { return &m.Cpu.C }, "D": func(m *impl.Machine) *int64 { return &m.Cpu.D },
		"E": func(m *impl.Machine) *int64 { return &m.Cpu.E }, "H": func(m *impl.Machine) *int64 { return &m.Cpu.H },
		"L": func(m *impl.Machine) *int64 { return &m.Cpu.L }, "F": func(m *impl.Machine) *int64 { return &m.Cpu.F },
		"Sp": func(m *impl.Machine) *int64 { return &m.Cpu.Sp }, "Pc": func(m *impl.Machine) *int64 { return &m.Cpu.Pc },
		"Cycles": func(m *impl.Machine) *int64 { return &m.Cycles },
	}
	limits := map[string]int64{"Sp": 65535, "Pc": 65535, "Cycles": 1000000000}
	tried := append([]int64{0, 1, 254, 255, 256, 257, 65534, 65535, 65536, 999999999, 1000000000, 1000000001, 1<<32 + 16}, noNumbers...)
	for name, field := range fields {
		limit, ok := limits[name]
		if !ok {
			limit = 255
		}
		for _, n := range tried {
			m := machineOf(t, impl.CtOne)
			*field(&m) = n
			wantMachine(t, name+" "+strconv.FormatInt(n, 10), m, n >= 0 && n <= limit && (name != "F" || n%16 == 0))
		}
	}
	for f := range int64(300) {
		m := someMachine(&d)
		m.Cpu.F = f
		wantMachine(t, "F "+strconv.FormatInt(f, 10), m, f < 256 && f%16 == 0)
	}
}

func TestMachinesByTheirMemory(t *testing.T) {
	for _, n := range []int{0, 1, 126, 127, 128, 255, 256, 257, 512} {
		m := machineOf(t, impl.CtFive)
		m.Work = string(make([]byte, n))
		wantMachine(t, "Work of "+strconv.Itoa(n), m, n == 256)
		m = machineOf(t, impl.CtFive)
		m.High = string(make([]byte, n))
		wantMachine(t, "High of "+strconv.Itoa(n), m, n == 127)
	}
	for n := range 104 {
		m := machineOf(t, impl.CtFive)
		m.Out = make([]int64, n)
		wantMachine(t, "Out of "+strconv.Itoa(n), m, n <= 100)
	}
	for _, v := range append([]int64{0, 255}, noBytes...) {
		for _, at := range []int{0, 50, 99} {
			m := machineOf(t, impl.CtFive)
			m.Out = make([]int64, 100)
			m.Out[at] = v
			wantMachine(t, "Out with "+strconv.FormatInt(v, 10), m, v >= 0 && v <= 255)
		}
	}
	for _, change := range []func(c *impl.Cart){
		func(c *impl.Cart) { c.Bank = 0 }, func(c *impl.Cart) { c.Bank = 32 }, func(c *impl.Cart) { c.Mode = 2 },
		func(c *impl.Cart) { c.RamBank = 4 }, func(c *impl.Cart) { c.Kind = 3 }, func(c *impl.Cart) { c.Ram += "x" },
		func(c *impl.Cart) { c.Rom += "x" }, func(c *impl.Cart) { c.Rom = "" },
	} {
		m := machineOf(t, impl.CtOne)
		change(&m.Cart)
		wantMachine(t, "a wrong cart", m, false)
	}
}

func TestNumbersOfWhatAStepTells(t *testing.T) {
	told := []int64{impl.RnGo, impl.RnHalt, impl.RnIllegal, impl.RnWrong, impl.RnFull}
	if !slices.Equal(told, []int64{0, 1, 2, 3, 4}) {
		t.Error(told)
	}
}

func TestMachineNew(t *testing.T) {
	for _, kind := range append([]int64{-1, 3, 1 << 32}, allKinds...) {
		for _, size := range []int{0, 256, 511, 512, 513, 4095, 4096, 4097} {
			rom := string(make([]byte, size))
			cart, right := impl.CartNew(rom, kind)
			want := impl.Machine{}
			if right {
				want = impl.Machine{Cpu: impl.Cpu{Sp: 65534}, Cart: cart, Work: string(make([]byte, 256)), High: string(make([]byte, 127))}
			}
			if m, ok := impl.MachineNew(rom, kind); ok != right || !sameMachine(m, want) {
				t.Errorf("MachineNew of %d bytes, kind %d: %v, %v", size, kind, ok, m.Cpu)
			}
		}
	}
}

func TestTheBusAgainstTheModel(t *testing.T) {
	d := dice(65)
	for range 300 {
		m := someMachine(&d)
		for _, addr := range append([]int64{int64(d.below(65536))}, busPlaces...) {
			model := modelMachineOf(m)
			if got, want := impl.BusRead(m, addr), int64(model.read(uint16(addr))); got != want {
				t.Fatalf("BusRead at %d is %d, want %d", addr, got, want)
			}
			v := []int64{0, 1, 10, 255, int64(d.below(256))}[d.below(5)]
			model.write(uint16(addr), uint8(v))
			want := model.machine()
			if model.full {
				want = impl.Machine{}
			}
			var all, was []int64
			m.Out, all, was = guarded(m.Out, int64(77))
			given := m
			got, ok := impl.BusWrite(m, addr, v)
			if ok == model.full || !sameMachine(got, want) {
				t.Fatalf("BusWrite of %d at %d: %v, %v", v, addr, ok, got.Out)
			}
			if !sameMachine(m, given) || !slices.Equal(all, was) {
				t.Fatalf("BusWrite of %d at %d writes into what it was given", v, addr)
			}
			if ok && d.below(4) == 0 {
				m = got
			}
		}
	}
}

func TestPlacesOnTheBus(t *testing.T) {
	m := machineOf(t, impl.CtPlain)
	kept := []int64{49152, 49407, 65408, 65534}
	for k, addr := range kept {
		n, ok := impl.BusWrite(m, addr, int64(k+1))
		if !ok {
			t.Fatalf("nothing is written at %d", addr)
		}
		m = n
	}
	for k, addr := range kept {
		if v := impl.BusRead(m, addr); v != int64(k+1) {
			t.Errorf("at %d stands %d", addr, v)
		}
	}
	if m.Work[0] != 1 || m.Work[255] != 2 || m.High[0] != 3 || m.High[126] != 4 {
		t.Error("what is written stands at another place")
	}
	for _, addr := range []int64{49151, 49408, 65280, 65281, 65282, 65407, 65535} {
		if v := impl.BusRead(m, addr); v != 255 {
			t.Errorf("at %d stands %d", addr, v)
		}
		n, ok := impl.BusWrite(m, addr, 9)
		if !ok || n.Work != m.Work || n.High != m.High || n.Cart != m.Cart || n.Cpu != m.Cpu || n.Cycles != m.Cycles || (len(n.Out) == 1) != (addr == 65281) {
			t.Errorf("a write at %d changes something", addr)
		}
	}
	for _, n := range noNumbers {
		if v := impl.BusRead(m, n); v != -1 {
			t.Errorf("BusRead at %d is %d", n, v)
		}
		if x, ok := impl.BusWrite(m, n, 1); ok || !sameMachine(x, impl.Machine{}) {
			t.Errorf("BusWrite at %d is made", n)
		}
	}
	for _, v := range noBytes {
		for _, addr := range busPlaces {
			if x, ok := impl.BusWrite(m, addr, v); ok || !sameMachine(x, impl.Machine{}) {
				t.Errorf("BusWrite of %d at %d is made", v, addr)
			}
		}
	}
}

func TestWhatIsToldOut(t *testing.T) {
	m := machineOf(t, impl.CtFive, 0xe0, 1, 0x00)
	m.Cpu.A = 200
	for k := range int64(100) {
		n, ok := impl.BusWrite(m, impl.OutAt, k)
		if !ok || int64(len(n.Out)) != k+1 || n.Out[k] != k || int64(len(m.Out)) != k {
			t.Fatalf("the write behind %d is not made", k)
		}
		if k == 99 {
			x, code := impl.Step(m)
			if code != impl.RnGo || len(x.Out) != 100 || x.Out[99] != 200 {
				t.Errorf("the last place is not filled: %d", code)
			}
		}
		m = n
	}
	if n, ok := impl.BusWrite(m, impl.OutAt, 1); ok || !sameMachine(n, impl.Machine{}) {
		t.Error("more than MaxOut are told")
	}
	if n, ok := impl.BusWrite(m, impl.OutAt+1, 1); !ok || !sameMachine(n, m) {
		t.Error("a write beside it is refused")
	}
	if x, code := impl.Step(m); code != impl.RnFull || !sameMachine(x, m) {
		t.Errorf("a step that tells more than MaxOut tells %d", code)
	}
	if x, code, steps := impl.RunFor(m, 2); code != impl.RnFull || steps != 0 || !sameMachine(x, m) {
		t.Errorf("a run that tells more than MaxOut tells %d, %d", code, steps)
	}
	m.Cpu.Pc = 2
	if _, code := impl.Step(m); code != impl.RnGo {
		t.Errorf("a step that tells nothing tells %d", code)
	}
}

// Each that writes to memory by a word that is pushed or stored tells out, too.
func TestOutByWords(t *testing.T) {
	for _, c := range []struct {
		code []byte
		sp   int64
		want []int64
	}{
		{[]byte{0xc5}, 65283, []int64{0x34}}, {[]byte{0xc5}, 65282, []int64{0x12}}, {[]byte{0xc5}, 65281, nil}, {[]byte{0xc5}, 65284, nil},
		{[]byte{0x08, 0x01, 0xff}, 0xabcd, []int64{0xcd}}, {[]byte{0x08, 0x00, 0xff}, 0xabcd, []int64{0xab}},
		{[]byte{0xcd, 0x10, 0x00}, 65283, []int64{3}}, {[]byte{0xff}, 65282, []int64{0}},
	} {
		m := machineOf(t, impl.CtOne, c.code...)
		m.Cpu.Sp, m.Cpu.B, m.Cpu.C = c.sp, 0x12, 0x34
		n, code := impl.Step(m)
		if code != impl.RnGo || !slices.Equal(n.Out, c.want) {
			t.Errorf("% x at %d tells %v, want %v", c.code, c.sp, n.Out, c.want)
		}
		m.Out = make([]int64, 100)
		if n, code := impl.Step(m); (code == impl.RnFull) != (c.want != nil) || code == impl.RnFull && !sameMachine(n, m) {
			t.Errorf("% x at %d tells %d when Out is full", c.code, c.sp, code)
		}
	}
}

// The one that is written last stays, where both go to one of a mapper's wires.
func TestWhichByteIsWrittenFirst(t *testing.T) {
	m := machineOf(t, impl.CtFive, 0xc5)
	m.Cpu.B, m.Cpu.C, m.Cpu.Sp = 6, 7, 202
	if n, _ := impl.Step(m); n.Cart.Bank != 7 {
		t.Errorf("push leaves bank %d", n.Cart.Bank)
	}
	m = machineOf(t, impl.CtFive, 0x08, 200, 0)
	m.Cpu.Sp = 0x0607
	if n, _ := impl.Step(m); n.Cart.Bank != 6 {
		t.Errorf("ld [n16],sp leaves bank %d", n.Cart.Bank)
	}
}

func TestCyclesAtTheirLimit(t *testing.T) {
	for _, c := range []struct {
		code []byte
		f    int64
		need int64
	}{
		{[]byte{0x00}, 0, 1}, {[]byte{0x10, 0}, 0, 1}, {[]byte{0xcd, 0x10, 0}, 0, 6}, {[]byte{0x08, 0, 0xc0}, 0, 5},
		{[]byte{0xc4, 0x10, 0}, 0, 6}, {[]byte{0xc4, 0x10, 0}, 128, 3}, {[]byte{0x28, 4}, 128, 3}, {[]byte{0x28, 4}, 0, 2},
		{[]byte{0xd8}, 16, 5}, {[]byte{0xd8}, 0, 2}, {[]byte{0xcb, 0x46}, 0, 3}, {[]byte{0x76}, 0, 1},
	} {
		for over := int64(-2); over <= 2; over++ {
			m := machineOf(t, impl.CtPlain, c.code...)
			m.Cpu.F = c.f
			m.Cycles = min(impl.MaxCycles-c.need+over, impl.MaxCycles)
			n, code := impl.Step(m)
			if m.Cycles+c.need <= impl.MaxCycles {
				if code != impl.RnGo || n.Cycles != m.Cycles+c.need {
					t.Errorf("% x at %d tells %d, %d", c.code, m.Cycles, code, n.Cycles)
				}
			} else if code != impl.RnFull || !sameMachine(n, m) {
				t.Errorf("% x at %d tells %d, %d", c.code, m.Cycles, code, n.Cycles)
			}
		}
	}
}

func TestInstructionsOverTheEndOfAllWords(t *testing.T) {
	at := func(pc int64, high ...byte) impl.Machine {
		m := machineOf(t, impl.CtPlain, 0x12, 0x34, 0x56)
		m.High = m.High[:127-len(high)] + string(high)
		m.Cpu.Pc, m.Cpu.Sp = pc, 0xc010
		return m
	}
	// At 65535 nothing stands, which reads as 255.
	if n, code := impl.Step(at(65534, 0x21)); code != impl.RnGo || n.Cpu.H != 0x12 || n.Cpu.L != 0xff || n.Cpu.Pc != 1 {
		t.Errorf("ld hl,n16 over the end: %d, %v", code, n.Cpu)
	}
	if n, code := impl.Step(at(65534, 0x06)); code != impl.RnGo || n.Cpu.B != 0xff || n.Cpu.Pc != 0 {
		t.Errorf("ld b,n8 over the end: %d, %v", code, n.Cpu)
	}
	if n, code := impl.Step(at(65534, 0xcb)); code != impl.RnGo || n.Cpu.A != 128 || n.Cpu.Pc != 0 {
		t.Errorf("set 7,a over the end: %d, %v", code, n.Cpu)
	}
	if n, code := impl.Step(at(65535)); code != impl.RnGo || n.Cpu.Pc != 0x38 || n.Cpu.Sp != 0xc00e || n.Work[14:16] != "\x00\x00" {
		t.Errorf("rst at the end: %d, %v", code, n.Cpu)
	}
	if n, code := impl.Step(at(65533, 0xcd, 0x34)); code != impl.RnGo || n.Cpu.Pc != 0xff34 || n.Work[14:16] != "\x00\x00" {
		t.Errorf("call ahead of the end: %d, %v", code, n.Cpu)
	}
	if n, code := impl.Step(at(65534, 0x18)); code != impl.RnGo || n.Cpu.Pc != 65535 {
		t.Errorf("jr to below 0: %d, %v", code, n.Cpu)
	}
	if n, code := impl.Step(at(65532, 0x18, 0x05, 0)); code != impl.RnGo || n.Cpu.Pc != 3 {
		t.Errorf("jr to above 65535: %d, %v", code, n.Cpu)
	}
	low := machineOf(t, impl.CtPlain, 0x18, 0x80)
	if n, code := impl.Step(low); code != impl.RnGo || n.Cpu.Pc != 65536-126 {
		t.Errorf("jr to far below 0: %d, %v", code, n.Cpu)
	}
}

func TestStacksOverTheEndOfAllWords(t *testing.T) {
	m := machineOf(t, impl.CtFive, 0xd5)
	m.Cpu.D, m.Cpu.E = 0x2a, 0x7b
	for sp, want := range map[int64]struct {
		sp   int64
		high byte
		on   bool
	}{
		0:     {65534, 0x7b, false}, // 65534 and 65535
		1:     {65535, 0, true},     // 65535 and 0, which is a wire of the mapper
		65535: {65533, 0x2a, false}, // 65533 and 65534
		2:     {0, 0, false},        // both are one wire of the mapper, which the lower one has last
	} {
		m.Cpu.Sp = sp
		n, code := impl.Step(m)
		if code != impl.RnGo || n.Cpu.Sp != want.sp || n.High[126] != want.high || n.Cart.RamOn != want.on {
			t.Errorf("push at %d: %d, Sp %d, %v, %v", sp, code, n.Cpu.Sp, n.High[124:], n.Cart.RamOn)
		}
	}
	m = machineOf(t, impl.CtFive, 0xd1)
	m.High = m.High[:125] + "\x11\x22"
	for sp, want := range map[int64][3]int64{
		65533: {65535, 0x22, 0x11},
		65534: {0, 255, 0x22},
		65535: {1, 0xd1, 255},
		0:     {2, 0, 0xd1},
		1:     {3, 0, 0},
	} {
		m.Cpu.Sp = sp
		n, code := impl.Step(m)
		if code != impl.RnGo || [3]int64{n.Cpu.Sp, n.Cpu.D, n.Cpu.E} != want {
			t.Errorf("pop at %d: %d, %v", sp, code, n.Cpu)
		}
	}
	m = machineOf(t, impl.CtFive, 0x08, 0xff, 0xff)
	m.Cpu.Sp = 0xfa55
	if n, _ := impl.Step(m); !n.Cart.RamOn {
		t.Error("ld [n16],sp does not go over the end")
	}
	m = machineOf(t, impl.CtFive, 0x08, 0xfe, 0xff)
	m.Cpu.Sp = 0xfa55
	if n, _ := impl.Step(m); n.Cart.RamOn || n.High[126] != 0x55 {
		t.Error("ld [n16],sp at the end")
	}
}

func TestHlOverTheEndOfAllWords(t *testing.T) {
	for code, want := range map[byte][2]int64{0x22: {0, 0}, 0x2a: {0, 0}, 0x32: {0xff, 0xfe}, 0x3a: {0xff, 0xfe}, 0x23: {0, 0}} {
		m := machineOf(t, impl.CtPlain, code)
		m.Cpu.H, m.Cpu.L = 255, 255
		if n, _ := impl.Step(m); n.Cpu.H != want[0] || n.Cpu.L != want[1] || n.Cpu.F != 0 {
			t.Errorf("%x leaves %v", code, n.Cpu)
		}
	}
	for code, want := range map[byte][2]int64{0x22: {0, 1}, 0x2a: {0, 1}, 0x32: {255, 255}, 0x3a: {255, 255}, 0x2b: {255, 255}} {
		if n, _ := impl.Step(machineOf(t, impl.CtPlain, code)); n.Cpu.H != want[0] || n.Cpu.L != want[1] || n.Cpu.F != 0 {
			t.Errorf("%x leaves %v", code, n.Cpu)
		}
	}
	for _, sp := range []int64{0, 65535} {
		m := machineOf(t, impl.CtPlain, 0x33, 0x3b)
		m.Cpu.Sp, m.Cpu.F = sp, 240
		n, _ := impl.Step(m)
		if back, _ := impl.Step(n); n.Cpu.Sp != (sp+1)%65536 || back.Cpu.Sp != sp || back.Cpu.F != 240 {
			t.Errorf("inc sp and dec sp of %d: %v, %v", sp, n.Cpu, back.Cpu)
		}
	}
}

func TestConditions(t *testing.T) {
	for cc, flag := range []int64{128, 128, 16, 16} {
		for f := int64(0); f < 256; f += 16 {
			met := (f&flag != 0) == (cc%2 == 1)
			for _, c := range []struct {
				code []byte
				pc   int64
			}{
				{[]byte{byte(0x20 + 8*cc), 0x20}, 0x22}, {[]byte{byte(0xc2 + 8*cc), 0x40, 0x30}, 0x3040},
				{[]byte{byte(0xc4 + 8*cc), 0x50, 0x30}, 0x3050}, {[]byte{byte(0xc0 + 8*cc)}, 0x0201},
			} {
				m := machineOf(t, impl.CtPlain, c.code...)
				m.Work = "\x01\x02" + m.Work[2:]
				m.Cpu.F, m.Cpu.Sp = f, 0xc000
				want := m.Cpu
				want.Pc = int64(len(c.code))
				cycles := impl.CyclesOf(int64(c.code[0]), false, met)
				if met {
					want.Pc = c.pc
					want.Sp += map[byte]int64{0xc4: -2, 0xc0: 2}[c.code[0]&0xe7]
				}
				if n, code := impl.Step(m); code != impl.RnGo || n.Cpu != want || n.Cycles != cycles {
					t.Errorf("% x with F %d leaves %v %d, want %v %d", c.code, f, n.Cpu, n.Cycles, want, cycles)
				}
			}
		}
	}
}

// P6: what is called comes back.
func TestWhatIsCalledComesBack(t *testing.T) {
	d := dice(66)
	for _, back := range []byte{0xc9, 0xd9} {
		for _, call := range [][]byte{{0xcd, 0x00, 0xc0}, {0xc4, 0x00, 0xc0}, {0xcc, 0x00, 0xc0}, {0xd4, 0x00, 0xc0}, {0xdc, 0x00, 0xc0}, {0xff}, {0xdf}} {
			for _, sp := range []int64{0xc0f0, 0xc004, 0xff82, 0xffff, 0xff90} {
				m := someMachine(&d)
				m.Cycles = 0
				m.Cpu.Pc, m.Cpu.Sp = 100, sp
				m = plantedIns(m, call...)
				if sp != 0xc0f0 && len(call) == 3 {
					m.Cpu.F = []int64{0, 128}[d.below(2)]
				}
				for _, at := range []int64{0xc000, 0x38, 0x18} {
					m = planted(m, at, back)
				}
				n, code := impl.Step(m)
				if code != impl.RnGo {
					t.Fatalf("% x tells %d", call, code)
				}
				if n.Cpu.Pc == 103 {
					continue
				}
				n, code = impl.Step(n)
				want := m.Cpu
				want.Pc += int64(len(call))
				want.Ime = want.Ime || back == 0xd9
				if code != impl.RnGo || n.Cpu != want {
					t.Fatalf("% x and back leaves %v, want %v", call, n.Cpu, want)
				}
			}
		}
	}
}

// P6: what is pushed is popped.
func TestWhatIsPushedIsPopped(t *testing.T) {
	d := dice(67)
	for from := range 4 {
		for to := range 4 {
			for _, sp := range []int64{0xc002, 0xc100, 0xff82, 0xffff, 0xc081} {
				m := machineOf(t, impl.CtPlain, byte(0xc5+16*from), byte(0xc1+16*to))
				m.Cpu = someMachine(&d).Cpu
				m.Cpu.Pc, m.Cpu.Sp = 0, sp
				words := func(c impl.Cpu) [4][2]int64 { return [4][2]int64{{c.B, c.C}, {c.D, c.E}, {c.H, c.L}, {c.A, c.F}} }
				want := words(m.Cpu)
				want[to] = want[from]
				if to == 3 {
					want[to][1] &= 240
				}
				n, code, steps := impl.RunFor(m, 2)
				if code != impl.RnGo || steps != 2 || words(n.Cpu) != want || n.Cpu.Sp != sp {
					t.Fatalf("pushed from %d, popped to %d at %d: %v", from, to, sp, n.Cpu)
				}
			}
		}
	}
}

func TestPopAfLeavesNoLowBits(t *testing.T) {
	for low := range int64(256) {
		m := machineOf(t, impl.CtPlain, 0xf1)
		m.Cpu.Sp = 0xc000
		m.Work = string([]byte{byte(low), 0x5a}) + m.Work[2:]
		n, code := impl.Step(m)
		if code != impl.RnGo || n.Cpu.A != 0x5a || n.Cpu.F != low&240 {
			t.Fatalf("pop af of %d: %v", low, n.Cpu)
		}
	}
}

func TestTurnsOfAWithoutThePrefix(t *testing.T) {
	for op := range int64(4) {
		for a := range int64(256) {
			for f := int64(0); f < 256; f += 16 {
				v, g := impl.Turned(op, a, f)
				for code, want := range map[byte]int64{byte(8*op + 7): g &^ 128, 203: g} {
					m := machineOf(t, impl.CtPlain, code, byte(8*op+7))
					m.Cpu.A, m.Cpu.F = a, f
					if n, _ := impl.Step(m); n.Cpu.A != v || n.Cpu.F != want {
						t.Fatalf("turn %d behind %d of %d, %d leaves %v", op, code, a, f, n.Cpu)
					}
				}
			}
		}
	}
}

func TestHalt(t *testing.T) {
	m := machineOf(t, impl.CtPlain, 0x76, 0x3c)
	n, code := impl.Step(m)
	want := m.Cpu
	want.Pc, want.Halted = 1, true
	if code != impl.RnGo || n.Cpu != want || n.Cycles != 1 {
		t.Errorf("halt tells %d, %v", code, n.Cpu)
	}
	if x, code := impl.Step(n); code != impl.RnHalt || !sameMachine(x, n) {
		t.Errorf("a step of one that is halted tells %d", code)
	}
	if x, code, steps := impl.RunFor(m, 500); code != impl.RnHalt || steps != 1 || !sameMachine(x, n) {
		t.Errorf("a run into halt tells %d, %d", code, steps)
	}
	// Being halted is told ahead of all that the step would tell.
	n.Cycles, n.Cpu.Pc = impl.MaxCycles, 2
	n = plantedIns(n, 0xd3)
	if _, code := impl.Step(n); code != impl.RnHalt {
		t.Errorf("one that is halted tells %d", code)
	}
	n.Cpu.Halted = false
	if x, code := impl.Step(n); code != impl.RnIllegal || !sameMachine(x, n) {
		t.Errorf("what begins no instruction tells %d", code)
	}
}

func TestIllegalBytes(t *testing.T) {
	for _, code := range []byte{0xd3, 0xdb, 0xdd, 0xe3, 0xe4, 0xeb, 0xec, 0xed, 0xf4, 0xfc, 0xfd} {
		for _, pc := range []int64{0, 255, 256, 511, 49152, 65534} {
			m := machineOf(t, impl.CtPlain, 0x3c)
			m.Cpu.Pc, m.Out = pc, []int64{4, 5}
			m = plantedIns(m, code)
			if n, got := impl.Step(m); got != impl.RnIllegal || !sameMachine(n, m) {
				t.Errorf("%x at %d tells %d", code, pc, got)
			}
			if n, got, steps := impl.RunFor(m, 3); got != impl.RnIllegal || steps != 0 || !sameMachine(n, m) {
				t.Errorf("%x at %d: the run tells %d, %d", code, pc, got, steps)
			}
		}
	}
}

func TestRunForByItsNumber(t *testing.T) {
	m := machineOf(t, impl.CtFive, 0x3c, 0xe0, 0x80, 0x18, 0xfb)
	for _, n := range []int64{0, 1, 2, 3, 499, 500} {
		want := m
		for range n {
			next, code := impl.Step(want)
			if code != impl.RnGo {
				t.Fatal(code)
			}
			want = next
		}
		got, code, steps := impl.RunFor(m, n)
		if code != impl.RnGo || steps != n || !sameMachine(got, want) {
			t.Errorf("RunFor %d tells %d, %d, %v", n, code, steps, got.Cpu)
		}
	}
	for _, n := range []int64{-1, -500, 501, 502, 1 << 32, math.MinInt64, math.MaxInt64} {
		if got, code, steps := impl.RunFor(m, n); code != impl.RnWrong || steps != 0 || !sameMachine(got, impl.Machine{}) {
			t.Errorf("RunFor %d tells %d, %d", n, code, steps)
		}
	}
	m.Cpu.Halted = true
	if got, code, steps := impl.RunFor(m, 0); code != impl.RnGo || steps != 0 || !sameMachine(got, m) {
		t.Errorf("no steps of one that is halted tell %d, %d", code, steps)
	}
	// The third step of the loop would be one too many.
	m.Cpu.Halted, m.Cycles = false, impl.MaxCycles-4
	if got, code, steps := impl.RunFor(m, 9); code != impl.RnFull || steps != 2 || got.Cpu.Pc != 3 || got.Cycles != impl.MaxCycles {
		t.Errorf("a run that is full tells %d, %d, %v", code, steps, got.Cpu)
	}
}

func TestMachineAnswersAreNewMemory(t *testing.T) {
	d := dice(68)
	for range 400 {
		m := someMachine(&d)
		var all, was []int64
		m.Out, all, was = guarded(m.Out, int64(77))
		given := m
		answers := []impl.Machine{}
		for range 2 {
			a, _ := impl.Step(m)
			b, _, _ := impl.RunFor(m, int64(d.below(9)))
			c, _ := impl.BusWrite(m, 49152, 3)
			e, _ := impl.BusWrite(m, impl.OutAt, 3)
			answers = append(answers, a, b, c, e)
		}
		impl.MachineOk(m)
		impl.BusRead(m, 49152)
		for _, a := range answers {
			for k := range a.Out[:cap(a.Out)] {
				a.Out[:cap(a.Out)][k] = 99
			}
		}
		if !sameMachine(m, given) || !slices.Equal(all, was) {
			t.Fatal("an argument was written into, or is shared with an answer")
		}
		again, _ := impl.Step(m)
		twice, _ := impl.Step(m)
		if !sameMachine(again, twice) {
			t.Fatal("another answer to the same argument")
		}
	}
}
