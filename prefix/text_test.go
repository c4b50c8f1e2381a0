package prefix_test

import (
	"encoding/binary"
	"math"
	"net/netip"
	"strconv"
	"strings"
	"testing"

	"lodestar/api"
	"lodestar/prefix"
)

func wantAddress(t *testing.T, s string, want uint32, e api.Errno) {
	t.Helper()
	if got, err := prefix.Address(s); got != want || err != e {
		t.Errorf("P2.6: Address(%q): %#x, %d; want %#x, %d", s, got, err, want, e)
	}
}

func wantPrefix(t *testing.T, s string, want api.Prefix, e api.Errno) {
	t.Helper()
	if got, err := prefix.Parse(s); got != want || err != e {
		t.Errorf("P2.6: Parse(%q): %v, %d; want %v, %d", s, got, err, want, e)
	}
}

// known tells what Address must answer by the library's reader of addresses.
func known(s string) (uint32, bool) {
	a, err := netip.ParseAddr(s)
	if err != nil || !a.Is4() {
		return 0, false
	}
	b := a.As4()
	return binary.BigEndian.Uint32(b[:]), true
}

// edits: the text with one byte taken, put in or changed, at each place.
func edits(s string) []string {
	l := []string{s}
	for i := range len(s) + 1 {
		for _, c := range []string{"", "0", "1", "2", "5", "9", ".", "/", "+", "-", " ", "\x00", "\n", "a", "x", ":", "_", "\xff", "٣"} {
			l = append(l, s[:i]+c+s[i:])
			if i < len(s) {
				l = append(l, s[:i]+c+s[i+1:])
			}
		}
	}
	return l
}

func TestAddress(t *testing.T) {
	wantAddress(t, "1.2.3.4", 0x01020304, api.OK)
	wantAddress(t, "0.0.0.0", 0, api.OK)
	wantAddress(t, "255.255.255.255", math.MaxUint32, api.OK)
	wantAddress(t, "10.0.100.9", 0x0A006409, api.OK)
}

func TestAddressRefuses(t *testing.T) {
	for _, s := range []string{
		"", ".", "...", "....", "1", "1.2.3", "1.2.3.", ".1.2.3", "1..2.3", "1.2.3.4.", "1.2.3.4.5", ".1.2.3.4",
		"01.2.3.4", "00.2.3.4", "1.2.3.00", "1.2.3.04", "000.0.0.0",
		"1.2.3.256", "256.2.3.4", "1.2.3.1000", "1.2.3.999", "1.2.3.4294967297", "1.2.3.18446744073709551617", "4294967296.0.0.0",
		"-1.2.3.4", "+1.2.3.4", "1.2.3.-0", " 1.2.3.4", "1.2.3.4 ", "1.2.3.4\n", "1.2.3.4\x00", "1,2,3,4", "1.2.3.4/8", "0x1.2.3.4", "1.2.3.a", "1_0.2.3.4", "٣.2.3.4", "1.2.3./", "1.2.3.:",
	} {
		wantAddress(t, s, 0, api.ErrText)
	}
	wantAddress(t, "1.2.3."+strings.Repeat("9", 1<<16), 0, api.ErrText)
	wantAddress(t, "1.2.3."+strings.Repeat("0", 1<<16), 0, api.ErrText)
	wantAddress(t, strings.Repeat("1.", 1<<16), 0, api.ErrText)
}

func TestAddressByteByByte(t *testing.T) {
	for n := range 1100 {
		for place := range 4 {
			l := []string{"1", "1", "1", "1"}
			l[place] = strconv.Itoa(n)
			if n > 255 {
				wantAddress(t, strings.Join(l, "."), 0, api.ErrText)
				continue
			}
			shift := 24 - 8*place
			wantAddress(t, strings.Join(l, "."), 0x01010101&^(255<<shift)|uint32(n)<<shift, api.OK)
		}
	}
}

func TestAddressOfTextsThatAreNearlyOne(t *testing.T) {
	for _, s := range []string{"1.2.3.4", "10.0.0.0", "255.250.205.25", "0.0.0.0"} {
		for _, x := range edits(s) {
			want, is := known(x)
			e := api.OK
			if !is {
				e = api.ErrText
			}
			wantAddress(t, x, want, e)
		}
	}
}

func TestParse(t *testing.T) {
	wantPrefix(t, "10.0.0.0/8", api.Prefix{Addr: 0x0A000000, Bits: 8}, api.OK)
	wantPrefix(t, "0.0.0.0/0", api.Prefix{}, api.OK)
	wantPrefix(t, "1.2.3.4/32", api.Prefix{Addr: 0x01020304, Bits: 32}, api.OK)
	wantPrefix(t, "128.0.0.0/1", api.Prefix{Addr: 1 << 31, Bits: 1}, api.OK)
	wantPrefix(t, "10.128.0.0/10", api.Prefix{Addr: 0x0A800000, Bits: 10}, api.OK)
}

func TestParseRefusesTexts(t *testing.T) {
	for _, s := range []string{
		"", "/", "/8", "8", "10.0.0.0", "10.0.0.0/", "10.0.0.0/08", "10.0.0.0/00", "10.0.0.0/33", "10.0.0.0/99", "10.0.0.0/256", "10.0.0.0/264", "10.0.0.0/4294967304",
		"10.0.0.0/8/8", "10.0.0.0/8/", "10.0.0.0//8", "10.0.0.0/+8", "10.0.0.0/-8", "10.0.0.0/ 8", "10.0.0.0/8 ", "10.0.0.0 /8", "10.0.0.0/8.", "10.0.0.0/.8", "10.0.0.0/8.0", "10.0.0.0/a",
		"10.0.0/8", "10.0.0.0.0/8", "010.0.0.0/8", "256.0.0.0/8", "10.0.0./8", "10.0.0/0/8",
	} {
		wantPrefix(t, s, api.Prefix{}, api.ErrText)
	}
}

func TestParseRefusesWhatIsNoPrefix(t *testing.T) {
	for _, s := range []string{"10.0.0.1/8", "10.0.0.0/6", "0.0.0.1/0", "255.255.255.255/31", "128.0.0.0/0", "1.2.3.4/29"} {
		wantPrefix(t, s, api.Prefix{}, api.ErrPrefix)
	}
	for _, s := range []string{"10.0.0.1/08", "10.0.0.1/33", "10.0.0.01/8", "10.0.0.1/8/"} { // the text's error is the first
		wantPrefix(t, s, api.Prefix{}, api.ErrText)
	}
}

func TestParseOfTextsThatAreNearlyOne(t *testing.T) {
	for _, s := range []string{"10.0.0.0/8", "1.2.3.4/32", "0.0.0.0/0", "192.168.20.0/22"} {
		for _, x := range edits(s) {
			p, err := netip.ParsePrefix(x)
			switch {
			case err != nil || !p.Addr().Is4():
				wantPrefix(t, x, api.Prefix{}, api.ErrText)
			case p != p.Masked():
				wantPrefix(t, x, api.Prefix{}, api.ErrPrefix)
			default:
				addr, _ := known(p.Addr().String())
				wantPrefix(t, x, api.Prefix{Addr: addr, Bits: uint8(p.Bits())}, api.OK)
			}
		}
	}
}

func TestDotted(t *testing.T) {
	for addr, want := range map[uint32]string{
		0: "0.0.0.0", math.MaxUint32: "255.255.255.255", 0x01020304: "1.2.3.4", 0x0A006400: "10.0.100.0", 1 << 31: "128.0.0.0", 1: "0.0.0.1", api.AllRouters: "224.0.0.5",
	} {
		if got := prefix.Dotted(addr); got != want {
			t.Errorf("P2.7: Dotted(%#x): %q; want %q", addr, got, want)
		}
	}
}

func TestText(t *testing.T) {
	for _, c := range []struct {
		p    api.Prefix
		want string
	}{
		{api.Prefix{}, "0.0.0.0/0"}, {api.Prefix{Addr: 0x0A000000, Bits: 8}, "10.0.0.0/8"}, {api.Prefix{Addr: math.MaxUint32, Bits: 32}, "255.255.255.255/32"},
		{api.Prefix{Addr: 0x0A000001, Bits: 8}, ""}, {api.Prefix{Addr: 0x0A000000, Bits: 33}, ""}, {api.Prefix{Bits: 255}, ""}, {api.Prefix{Addr: 1}, ""},
	} {
		if got := prefix.Text(c.p); got != c.want {
			t.Errorf("P2.7: Text(%v): %q; want %q", c.p, got, c.want)
		}
	}
}

func TestThereAndBack(t *testing.T) {
	l := some()
	for _, addr := range ends(l) {
		wantAddress(t, prefix.Dotted(addr), addr, api.OK)
	}
	for _, p := range l {
		if prefix.Check(p) == api.OK {
			wantPrefix(t, prefix.Text(p), p, api.OK)
		}
	}
	for _, s := range append(edits("10.2.0.0/15"), edits("1.2.3.4")...) {
		if a, e := prefix.Address(s); e == api.OK && prefix.Dotted(a) != s {
			t.Errorf("What follows: Dotted of Address of %q: %q", s, prefix.Dotted(a))
		}
		if p, e := prefix.Parse(s); e == api.OK && prefix.Text(p) != s {
			t.Errorf("What follows: Text of Parse of %q: %q", s, prefix.Text(p))
		}
	}
}
