package tests

import (
	"testing"

	"loop.example/g00460/impl"
)

var allKinds = []int64{impl.CtPlain, impl.CtOne, impl.CtFive}

// cartPlaces are the ends of all that a cart tells apart.
var cartPlaces = []int64{0, 1, 127, 128, 129, 255, 256, 257, 383, 384, 511, 512, 513, 40959, 40960, 40961, 41022, 41023, 41024, 41025, 49152, 65281, 65535}

// romOf has bytes of which no two banks have the same ones.
func romOf(banks int) string {
	b := make([]byte, banks*256)
	for k := range b {
		b[k] = byte(k*7 + k/256*31)
	}
	return string(b)
}

func cartOf(t *testing.T, banks int, kind int64) impl.Cart {
	t.Helper()
	c, ok := impl.CartNew(romOf(banks), kind)
	if !ok || !impl.CartOk(c) {
		t.Fatalf("no new cart of %d banks, kind %d", banks, kind)
	}
	return c
}

func writtenTo(t *testing.T, c impl.Cart, addr, v int64) impl.Cart {
	t.Helper()
	was := c
	d, ok := impl.CartWrite(c, addr, v)
	if !ok || !impl.CartOk(d) {
		t.Fatalf("CartWrite of %d at %d is not made, or leaves no right cart", v, addr)
	}
	if c != was {
		t.Fatalf("CartWrite of %d at %d changes what it was given", v, addr)
	}
	return d
}

// modelCart holds a cart's ram bank by bank and its wires as bits.
type modelCart struct {
	rom   string
	kind  int64
	bank  uint8
	ram   [4][64]uint8
	which uint8
	on    bool
	mode  uint8
}

func modelCartOf(c impl.Cart) modelCart {
	m := modelCart{rom: c.Rom, kind: c.Kind, bank: uint8(c.Bank), which: uint8(c.RamBank), on: c.RamOn, mode: uint8(c.Mode)}
	for k := range len(c.Ram) {
		m.ram[k>>6][k&63] = c.Ram[k]
	}
	return m
}

func (m *modelCart) cart() impl.Cart {
	var ram []byte
	for _, bank := range m.ram {
		ram = append(ram, bank[:]...)
	}
	return impl.Cart{Rom: m.rom, Kind: m.kind, Bank: int64(m.bank), Ram: string(ram), RamBank: int64(m.which), RamOn: m.on, Mode: int64(m.mode)}
}

func (m *modelCart) ramAt(addr uint16) *uint8 {
	if !m.on || addr < 0xa000 || addr > 0xa03f {
		return nil
	}
	if m.kind == 1 && m.mode == 0 {
		return &m.ram[0][addr&63]
	}
	return &m.ram[m.which][addr&63]
}

func (m *modelCart) read(addr uint16) uint8 {
	switch addr >> 8 {
	case 0:
		return m.rom[addr]
	case 1:
		bank := int(m.bank)
		for bank >= len(m.rom)>>8 {
			bank -= len(m.rom) >> 8
		}
		return m.rom[bank<<8|int(addr&255)]
	}
	if p := m.ramAt(addr); p != nil {
		return *p
	}
	return 0xff
}

func (m *modelCart) write(addr uint16, v uint8) {
	if m.kind == 0 {
		return
	}
	switch addr >> 7 {
	case 0:
		m.on = v&15 == 0xa
	case 1:
		m.bank = v
		if m.kind == 1 {
			m.bank &= 31
			if m.bank == 0 {
				m.bank = 1
			}
		}
	case 2:
		m.which = v & 3
	case 3:
		if m.kind == 1 {
			m.mode = v & 1
		}
	}
	if p := m.ramAt(addr); p != nil {
		*p = v
	}
}

// someCart is a right one, its fields often at their ends.
func someCart(d *dice) impl.Cart {
	banks := []int{2, 3, 4, 5, 8, 15, 16}[d.below(7)]
	kind := allKinds[d.below(3)]
	ram := make([]byte, 256)
	for k := range ram {
		ram[k] = byte(d.below(256))
	}
	c := impl.Cart{Rom: romOf(banks), Kind: kind, Bank: 1, Ram: string(ram)}
	switch kind {
	case impl.CtOne:
		c.Bank = []int64{1, 2, 15, 16, 30, 31, int64(1 + d.below(31))}[d.below(7)]
		c.Mode = int64(d.below(2))
	case impl.CtFive:
		c.Bank = []int64{0, 1, 15, 16, 17, 254, 255, int64(d.below(256))}[d.below(8)]
	}
	if kind != impl.CtPlain {
		c.RamBank = int64(d.below(4))
		c.RamOn = d.below(2) == 1
	}
	return c
}

func wantCart(t *testing.T, c impl.Cart, want bool) {
	t.Helper()
	if impl.CartOk(c) != want {
		t.Errorf("CartOk is %v: kind %d, %d bytes of rom, %d of ram, bank %d, ram bank %d %v, mode %d", !want, c.Kind, len(c.Rom), len(c.Ram), c.Bank, c.RamBank, c.RamOn, c.Mode)
	}
	if want {
		return
	}
	if n := impl.MappedBank(c); n != -1 {
		t.Errorf("MappedBank of a wrong cart is %d", n)
	}
	for _, addr := range cartPlaces {
		if v := impl.CartRead(c, addr); v != -1 {
			t.Errorf("CartRead of a wrong cart at %d is %d", addr, v)
		}
		if d, ok := impl.CartWrite(c, addr, 10); ok || d != (impl.Cart{}) {
			t.Errorf("CartWrite of a wrong cart at %d is made, or leaves something", addr)
		}
	}
}

func TestCartsByTheLengthOfTheirRom(t *testing.T) {
	for _, kind := range allKinds {
		for size := range 17*256 + 2 {
			right := size >= 512 && size <= 4096 && size%256 == 0
			rom := string(make([]byte, size))
			c, ok := impl.CartNew(rom, kind)
			want := impl.Cart{}
			if right {
				want = impl.Cart{Rom: rom, Kind: kind, Bank: 1, Ram: string(make([]byte, 256))}
			}
			if ok != right || c != want {
				t.Fatalf("CartNew of %d bytes, kind %d: %v", size, kind, ok)
			}
			if impl.CartOk(impl.Cart{Rom: rom, Kind: kind, Bank: 1, Ram: string(make([]byte, 256))}) != right {
				t.Fatalf("CartOk with a rom of %d bytes, kind %d", size, kind)
			}
		}
		if _, ok := impl.CartNew("", kind); ok {
			t.Errorf("a cart of nothing, kind %d", kind)
		}
	}
	for _, size := range []int{511, 513, 4095, 4097} {
		wantCart(t, impl.Cart{Rom: string(make([]byte, size)), Bank: 1, Ram: string(make([]byte, 256))}, false)
	}
}

func TestCartsThatAreNotRight(t *testing.T) {
	wantCart(t, impl.Cart{}, false)
	for _, kind := range []int64{-1, 3, 4, 255, 256, 1 << 32, 1<<32 + 1, -1 << 63} {
		c := cartOf(t, 2, impl.CtFive)
		c.Kind = kind
		wantCart(t, c, false)
		if d, ok := impl.CartNew(romOf(2), kind); ok || d != (impl.Cart{}) {
			t.Errorf("CartNew makes a cart of kind %d", kind)
		}
	}
	for _, kind := range allKinds {
		for _, size := range []int{0, 1, 63, 64, 255, 257, 320, 512} {
			c := cartOf(t, 2, kind)
			c.Ram = string(make([]byte, size))
			wantCart(t, c, false)
		}
	}
}

// Least and greatest of each field, by kind; one less and one more is refused.
func TestCartsAtTheBoundsOfTheirFields(t *testing.T) {
	bounds := map[int64][3][2]int64{
		impl.CtPlain: {{1, 1}, {0, 0}, {0, 0}},
		impl.CtOne:   {{1, 31}, {0, 3}, {0, 1}},
		impl.CtFive:  {{0, 255}, {0, 3}, {0, 0}},
	}
	for kind, ends := range bounds {
		for field, end := range ends {
			tried := append([]int64{end[0] - 1, end[0], end[1], end[1] + 1, 1 << 32, 1<<32 + 1}, noNumbers...)
			for _, n := range tried {
				c := cartOf(t, 16, kind)
				*[]*int64{&c.Bank, &c.RamBank, &c.Mode}[field] = n
				wantCart(t, c, n >= end[0] && n <= end[1])
			}
		}
		c := cartOf(t, 2, kind)
		c.RamOn = true
		wantCart(t, c, kind != impl.CtPlain)
	}
}

func TestCartReadAndWriteOfWrongNumbers(t *testing.T) {
	for _, kind := range allKinds {
		c := cartOf(t, 4, kind)
		for _, addr := range noNumbers {
			if v := impl.CartRead(c, addr); v != -1 {
				t.Errorf("CartRead at %d is %d", addr, v)
			}
			if d, ok := impl.CartWrite(c, addr, 1); ok || d != (impl.Cart{}) {
				t.Errorf("CartWrite at %d is made", addr)
			}
		}
		for _, v := range noBytes {
			for _, addr := range cartPlaces {
				if d, ok := impl.CartWrite(c, addr, v); ok || d != (impl.Cart{}) {
					t.Errorf("CartWrite of %d at %d is made", v, addr)
				}
			}
		}
	}
}

func TestCartsAgainstTheModel(t *testing.T) {
	d := dice(51)
	for range 600 {
		c := someCart(&d)
		for _, addr := range append([]int64{int64(d.below(512)), int64(d.below(65536))}, cartPlaces...) {
			v := []int64{0, 1, 10, 11, 26, 31, 32, 33, 250, 255, int64(d.below(256))}[d.below(11)]
			m := modelCartOf(c)
			if got := impl.CartRead(c, addr); got != int64(m.read(uint16(addr))) {
				t.Fatalf("CartRead at %d is %d, want %d", addr, got, m.read(uint16(addr)))
			}
			m.write(uint16(addr), uint8(v))
			next := writtenTo(t, c, addr, v)
			if next != m.cart() {
				t.Fatalf("kind %d: CartWrite of %d at %d leaves another cart", c.Kind, v, addr)
			}
			if d.below(3) == 0 {
				c = next
			}
		}
	}
}

// P5: the first bank is always seen; what is written never changes the rom.
func TestTheFirstBankIsAlwaysSeen(t *testing.T) {
	d := dice(52)
	for _, kind := range allKinds {
		for _, banks := range []int{2, 5, 16} {
			c := cartOf(t, banks, kind)
			for range 200 {
				addr := cartPlaces[d.below(len(cartPlaces))]
				if d.below(2) == 0 {
					addr = int64(d.below(512))
				}
				c = writtenTo(t, c, addr, int64(d.below(256)))
				if c.Rom != romOf(banks) || c.Kind != kind {
					t.Fatalf("a write at %d changes the rom or the kind", addr)
				}
				for at := range int64(256) {
					if v := impl.CartRead(c, at); v != int64(c.Rom[at]) {
						t.Fatalf("at %d stands %d, not the first bank", at, v)
					}
				}
			}
		}
	}
}

// P5: a bank that is asked for is mapped, as far as there is one.
func TestABankThatIsAskedForIsMapped(t *testing.T) {
	for banks := 2; banks <= 16; banks++ {
		for v := range int64(256) {
			one := v & 31
			if one == 0 {
				one = 1
			}
			for kind, bank := range map[int64]int64{impl.CtPlain: 1, impl.CtOne: one, impl.CtFive: v} {
				addr := 128 + v/2
				c := writtenTo(t, cartOf(t, banks, kind), addr, v)
				want := bank % int64(banks)
				if got := impl.MappedBank(c); got != want {
					t.Fatalf("kind %d, %d banks: %d asked at %d maps %d, want %d", kind, banks, v, addr, got, want)
				}
				for _, at := range []int64{0, 1, 127, 128, 254, 255} {
					if got := impl.CartRead(c, 256+at); got != int64(c.Rom[want*256+at]) {
						t.Fatalf("kind %d, %d banks: place %d of bank %d is %d", kind, banks, at, want, got)
					}
				}
				if impl.CartRead(c, 512) != 255 || impl.CartRead(c, 255) != int64(c.Rom[255]) {
					t.Fatal("the mapped bank is seen beside its place")
				}
			}
		}
	}
}

func TestWhereABankIsAskedFor(t *testing.T) {
	for _, kind := range []int64{impl.CtOne, impl.CtFive} {
		for addr := range int64(600) {
			c := writtenTo(t, cartOf(t, 16, kind), addr, 9)
			if (c.Bank == 9) != (addr >= 128 && addr < 256) {
				t.Fatalf("kind %d: 9 at %d leaves Bank %d", kind, addr, c.Bank)
			}
			if (c.RamBank == 1) != (addr >= 256 && addr < 384) {
				t.Fatalf("kind %d: 9 at %d leaves RamBank %d", kind, addr, c.RamBank)
			}
			if (c.Mode == 1) != (kind == impl.CtOne && addr >= 384 && addr < 512) {
				t.Fatalf("kind %d: 9 at %d leaves Mode %d", kind, addr, c.Mode)
			}
			on := writtenTo(t, c, addr, 10)
			if on.RamOn != (addr < 128) {
				t.Fatalf("kind %d: 10 at %d leaves RamOn %v", kind, addr, on.RamOn)
			}
		}
	}
}

func TestRamIsOnByTheLowHalfAlone(t *testing.T) {
	for _, kind := range []int64{impl.CtOne, impl.CtFive} {
		c := cartOf(t, 2, kind)
		for v := range int64(256) {
			for _, addr := range []int64{0, 1, 64, 127} {
				c = writtenTo(t, c, addr, v)
				if c.RamOn != (v&15 == 10) {
					t.Fatalf("%d at %d: RamOn is %v", v, addr, c.RamOn)
				}
			}
		}
	}
	plain := cartOf(t, 2, impl.CtPlain)
	for v := range int64(256) {
		for _, addr := range cartPlaces {
			if writtenTo(t, plain, addr, v) != plain {
				t.Fatalf("a plain cart changes by %d at %d", v, addr)
			}
		}
	}
}

// P5: ram that is written is read, in the bank in which it was.
func TestRamThatIsWrittenIsRead(t *testing.T) {
	for _, kind := range []int64{impl.CtOne, impl.CtFive} {
		c := writtenTo(t, cartOf(t, 2, kind), 0, 10)
		c = writtenTo(t, c, 384, 1)
		for bank := range int64(4) {
			c = writtenTo(t, c, 256+bank, bank+4*bank)
			for at := range int64(64) {
				c = writtenTo(t, c, impl.RamAt+at, 64*bank+at)
			}
		}
		for bank := range int64(4) {
			c = writtenTo(t, c, 383, bank)
			for at := range int64(64) {
				if got := impl.CartRead(c, impl.RamAt+at); got != 64*bank+at {
					t.Fatalf("kind %d: place %d of ram bank %d is %d", kind, at, bank, got)
				}
				if c.Ram[64*bank+at] != byte(64*bank+at) {
					t.Fatalf("kind %d: Ram at %d is %d", kind, 64*bank+at, c.Ram[64*bank+at])
				}
			}
			if impl.CartRead(c, impl.RamAt-1) != 255 || impl.CartRead(c, impl.RamAt+64) != 255 {
				t.Fatal("ram is seen beside its place")
			}
			off := writtenTo(t, c, 127, 0)
			if impl.CartRead(off, impl.RamAt) != 255 || writtenTo(t, off, impl.RamAt, 77) != off {
				t.Fatal("ram is seen, or written, that is off")
			}
			if back := writtenTo(t, off, 0, 0xfa); back != c {
				t.Fatal("ram that was off is not as it was")
			}
		}
	}
}

func TestModeZeroSeesTheFirstRamBank(t *testing.T) {
	c := writtenTo(t, cartOf(t, 2, impl.CtOne), 0, 10)
	c = writtenTo(t, c, impl.RamAt+5, 50)
	c = writtenTo(t, c, 256, 3)
	if c.RamBank != 3 || impl.CartRead(c, impl.RamAt+5) != 50 {
		t.Error("mode 0 does not see the first bank")
	}
	c = writtenTo(t, c, 511, 255)
	if c.Mode != 1 || impl.CartRead(c, impl.RamAt+5) != 0 {
		t.Error("mode 1 does not see the bank that was asked for")
	}
	c = writtenTo(t, c, impl.RamAt+5, 53)
	c = writtenTo(t, c, 384, 254)
	if c.Mode != 0 || c.RamBank != 3 || impl.CartRead(c, impl.RamAt+5) != 50 {
		t.Error("mode 0 does not see the first bank again")
	}
	c = writtenTo(t, c, impl.RamAt+5, 51)
	if c.Ram[5] != 51 || c.Ram[3*64+5] != 53 {
		t.Error("mode 0 does not write into the first bank")
	}
	five := writtenTo(t, cartOf(t, 2, impl.CtFive), 384, 1)
	if five != cartOf(t, 2, impl.CtFive) {
		t.Error("a mode is kept where there is none")
	}
}
