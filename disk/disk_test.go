package disk_test

import (
	"bytes"
	"crypto/sha256"
	"encoding/binary"
	"encoding/hex"
	"math"
	"slices"
	"testing"

	"escritoire/api"
	"escritoire/disk"
)

const maxData = 8192

// sample is so many bytes, unlike for unlike marks.
func sample(n int, mark byte) []byte {
	b := make([]byte, n)
	for i := range b {
		b[i] = byte(i*7+i>>8) ^ mark
	}
	return b
}

// record is a record's bytes, by the chapter's words.
func record(data []byte) []byte {
	sum := sha256.Sum256(data)
	b := binary.BigEndian.AppendUint16(nil, uint16(len(data)))
	return append(append(b, sum[:8]...), data...)
}

// laid are the bytes of records, one behind the other.
func laid(l ...[]byte) []byte {
	var b []byte
	for _, data := range l {
		b = append(b, record(data)...)
	}
	return b
}

func writes(t *testing.T, d *disk.Disk, l ...[]byte) {
	t.Helper()
	for _, data := range l {
		if err := d.Write(data); err != api.OK {
			t.Fatalf("Write of %d bytes: %d", len(data), err)
		}
	}
}

// written is a disk with synced records, and with others that are not.
func written(t *testing.T, synced, others [][]byte) *disk.Disk {
	t.Helper()
	d := disk.New()
	writes(t, d, synced...)
	syncs(t, d)
	writes(t, d, others...)
	return d
}

func syncs(t *testing.T, d *disk.Disk) {
	t.Helper()
	if err := d.Sync(); err != api.OK {
		t.Errorf("Sync: %d", err)
	}
}

func powers(t *testing.T, d *disk.Disk, keep int) {
	t.Helper()
	if err := d.Power(keep); err != api.OK {
		t.Errorf("Power(%d): %d", keep, err)
	}
}

func trims(t *testing.T, d *disk.Disk) {
	t.Helper()
	if err := d.Trim(); err != api.OK {
		t.Errorf("Trim: %d", err)
	}
}

func sameLists(a, b [][]byte) bool { return slices.EqualFunc(a, b, bytes.Equal) }

// holds asks for all that a disk tells.
func holds(t *testing.T, d *disk.Disk, want []byte, synced int, records ...[]byte) {
	t.Helper()
	if got := d.Bytes(); !bytes.Equal(got, want) {
		t.Errorf("%d bytes instead of %d: %x", len(got), len(want), got[:min(len(got), 40)])
	}
	if got := d.Synced(); got != synced {
		t.Errorf("%d bytes last instead of %d", got, synced)
	}
	if got := d.Records(); !sameLists(got, records) {
		t.Errorf("%d records instead of %d", len(got), len(records))
	}
}

// refuses asks for an error of a Write, behind which nothing has changed.
func refuses(t *testing.T, d *disk.Disk, b []byte, want api.Errno) {
	t.Helper()
	all, synced, records := d.Bytes(), d.Synced(), d.Records()
	if err := d.Write(b); err != want {
		t.Errorf("Write of %d bytes: %d instead of %d", len(b), err, want)
	}
	holds(t, d, all, synced, records...)
}

// P1
func TestNilDisk(t *testing.T) {
	var d *disk.Disk
	for _, b := range [][]byte{nil, {}, {1}, make([]byte, maxData+1)} {
		if err := d.Write(b); err != api.ErrNil {
			t.Error(err)
		}
	}
	for _, keep := range []int{math.MinInt, -1, 0, 1, math.MaxInt} {
		if err := d.Power(keep); err != api.ErrNil {
			t.Error(err)
		}
	}
	if d.Sync() != api.ErrNil || d.Trim() != api.ErrNil {
		t.Error(d.Sync(), d.Trim())
	}
	if len(d.Records()) != 0 || len(d.Bytes()) != 0 || d.Synced() != 0 || d.Fork() != nil {
		t.Error("a nil disk answers something")
	}
}

// P14.1
func TestNew(t *testing.T) {
	d := disk.New()
	if d == nil {
		t.Fatal("nil")
	}
	holds(t, d, nil, 0)
	powers(t, d, 0)
	powers(t, d, 5)
	syncs(t, d)
	trims(t, d)
	holds(t, d, nil, 0)
	writes(t, d, []byte("a"))
	holds(t, disk.New(), nil, 0)
}

// P14.1: these bytes are another program's
func TestBytesAsTold(t *testing.T) {
	d := disk.New()
	writes(t, d, []byte("abc"), nil)
	want, err := hex.DecodeString("0003" + "ba7816bf8f01cfea" + "616263" + "0000" + "e3b0c44298fc1c14")
	if err != nil {
		t.Fatal(err)
	}
	holds(t, d, want, 0, []byte("abc"), nil)
}

// P14.1: the chapter's example
func TestExample(t *testing.T) {
	d := disk.New()
	writes(t, d, []byte("abc"))
	powers(t, d, 3)
	holds(t, d, record([]byte("abc"))[:3], 3)
	trims(t, d)
	holds(t, d, nil, 0)
}

// P14.1, P14.2: data of each length that is near an edge
func TestLengths(t *testing.T) {
	for _, n := range []int{0, 1, 2, 9, 10, 11, 255, 256, 257, 4095, 4096, 4097, maxData - 1, maxData} {
		d := disk.New()
		data := sample(n, 3)
		writes(t, d, data)
		holds(t, d, record(data), 0, data)
		writes(t, d, []byte("x"), data)
		holds(t, d, laid(data, []byte("x"), data), 0, data, []byte("x"), data)
		trims(t, d)
		all := laid(data, []byte("x"), data)
		holds(t, d, all, len(all), data, []byte("x"), data)
	}
}

func TestNoData(t *testing.T) {
	d := disk.New()
	writes(t, d, nil, []byte{}, nil)
	holds(t, d, laid(nil, nil, nil), 0, nil, nil, nil)
	if len(d.Bytes()) != 30 || len(d.Records()) != 3 {
		t.Error(len(d.Bytes()), len(d.Records()))
	}
}

// P14.1: too much data for a record, be there room or not
func TestTooMuchData(t *testing.T) {
	for _, n := range []int{maxData + 1, maxData + 2, 1<<16 - 1, 1 << 16, 1<<16 + 5, 1 << 17} {
		refuses(t, disk.New(), make([]byte, n), api.ErrRange)
		refuses(t, written(t, [][]byte{[]byte("a")}, [][]byte{[]byte("b")}), make([]byte, n), api.ErrRange)
		refuses(t, filled(t, 0), make([]byte, n), api.ErrRange)
	}
}

// filled is a disk that has room for so many bytes.
func filled(t *testing.T, room int) *disk.Disk {
	t.Helper()
	d := disk.New()
	for left := api.MaxDisk - room; left > 0; left = api.MaxDisk - room - len(d.Bytes()) {
		n := min(left-10, maxData)
		if left > n+10 && left-n-10 < 10 {
			n -= 10 // what is left must have room for a head
		}
		writes(t, d, sample(n, 1))
	}
	if len(d.Bytes()) != api.MaxDisk-room {
		t.Fatal(len(d.Bytes()))
	}
	return d
}

// P14.1: room for one record more, and for none
func TestFull(t *testing.T) {
	for _, n := range []int{0, 1, 100, 255, 256, maxData - 1, maxData} {
		d := filled(t, n+10)
		for _, more := range []int{n + 1, n + 2, maxData} {
			if more > n && more <= maxData {
				refuses(t, d, sample(more, 2), api.ErrFull)
			}
		}
		records, all := d.Records(), d.Bytes()
		writes(t, d, sample(n, 2))
		holds(t, d, append(all, record(sample(n, 2))...), 0, append(records, sample(n, 2))...)
		if len(d.Bytes()) != 65536 {
			t.Error(len(d.Bytes()))
		}
		for _, more := range []int{0, 1, n, maxData} {
			refuses(t, d, sample(more, 2), api.ErrFull)
		}
		syncs(t, d)
		refuses(t, d, nil, api.ErrFull)
	}
	for room := range 10 {
		d := filled(t, room)
		refuses(t, d, nil, api.ErrFull)
		refuses(t, d, []byte("a"), api.ErrFull)
	}
}

// Bytes that went leave room.
func TestRoomComesBack(t *testing.T) {
	d := filled(t, 9)
	refuses(t, d, nil, api.ErrFull)
	powers(t, d, api.MaxDisk-10)
	writes(t, d, nil)
	if len(d.Bytes()) != api.MaxDisk {
		t.Error(len(d.Bytes()))
	}
	trims(t, d)
	writes(t, d, sample(100, 4))
}

// P14.1
func TestSync(t *testing.T) {
	d := disk.New()
	var all [][]byte
	for i := range 6 {
		data := sample(i*i, byte(i))
		was := d.Synced()
		writes(t, d, data)
		all = append(all, data)
		holds(t, d, laid(all...), was, all...)
		if i%2 == 1 {
			syncs(t, d)
			syncs(t, d)
			holds(t, d, laid(all...), len(laid(all...)), all...)
		}
	}
}

// P14.1: how many of the bytes that do not last are kept
func TestPower(t *testing.T) {
	synced, others := [][]byte{[]byte("first"), nil}, [][]byte{[]byte("second one"), []byte("3"), nil, []byte("last")}
	all := laid(append(slices.Clone(synced), others...)...)
	base := len(laid(synced...))
	for keep := range len(all) - base + 20 {
		d := written(t, synced, others)
		powers(t, d, keep)
		n := min(base+keep, len(all))
		want := slices.Clone(synced)
		for i := range others {
			if len(laid(others[:i+1]...)) <= keep {
				want = append(want, others[i])
			}
		}
		holds(t, d, all[:n], n, want...)
	}
	for _, keep := range []int{len(all), 1 << 16, 1 << 31, math.MaxInt - 1, math.MaxInt} {
		d := written(t, synced, others)
		powers(t, d, keep)
		holds(t, d, all, len(all), append(slices.Clone(synced), others...)...)
	}
}

func TestPowerBelowZero(t *testing.T) {
	for _, keep := range []int{-1, -2, -10, -1 << 31, math.MinInt} {
		for _, others := range [][][]byte{nil, {[]byte("b")}} {
			d := written(t, [][]byte{[]byte("a")}, others)
			all, records := d.Bytes(), d.Records()
			if err := d.Power(keep); err != api.ErrRange {
				t.Errorf("Power(%d): %d", keep, err)
			}
			holds(t, d, all, 11, records...)
		}
		if err := disk.New().Power(keep); err != api.ErrRange {
			t.Errorf("Power(%d): %d", keep, err)
		}
	}
}

// P14.1: what is kept lasts, so that another loss takes nothing of it
func TestPowerTwice(t *testing.T) {
	d := written(t, [][]byte{[]byte("a")}, [][]byte{[]byte("b"), []byte("c")})
	all := laid([]byte("a"), []byte("b"), []byte("c"))
	powers(t, d, 11)
	for range 2 {
		for _, keep := range []int{0, 3, 100} {
			powers(t, d, keep)
			holds(t, d, all[:22], 22, []byte("a"), []byte("b"))
		}
	}
	writes(t, d, []byte("d"))
	holds(t, d, laid([]byte("a"), []byte("b"), []byte("d")), 22, []byte("a"), []byte("b"), []byte("d"))
	powers(t, d, 0)
	holds(t, d, all[:22], 22, []byte("a"), []byte("b"))
}

// P14.2: a record that is torn anywhere is none, nor is what stands behind it
func TestTorn(t *testing.T) {
	first, second := []byte("first"), sample(30, 9)
	for keep := range len(record(second)) {
		d := written(t, [][]byte{first}, [][]byte{second, []byte("third")})
		powers(t, d, keep)
		torn := append(record(first), record(second)[:keep]...)
		holds(t, d, torn, len(torn), first)
		// Behind a torn one there is nothing whole, till it is trimmed.
		writes(t, d, []byte("next"))
		want := [][]byte{first}
		if keep == 0 {
			want = append(want, []byte("next"))
		}
		holds(t, d, append(slices.Clone(torn), record([]byte("next"))...), len(torn), want...)
		f := d.Fork()
		trims(t, f)
		holds(t, f, laid(want...), len(laid(want...)), want...)
		powers(t, d, 0)
		trims(t, d)
		holds(t, d, record(first), len(record(first)), first)
		writes(t, d, []byte("next"))
		holds(t, d, laid(first, []byte("next")), len(record(first)), first, []byte("next"))
	}
}

// P14.2: bytes behind a torn record count to it, as far as its length says; if its sum fits then, it is whole.
func TestTornOneMadeWhole(t *testing.T) {
	inner := []byte("inner")
	outer := append([]byte("outer "), record(inner)...)
	d := disk.New()
	writes(t, d, outer)
	powers(t, d, 10+len("outer "))
	holds(t, d, record(outer)[:16], 16)
	writes(t, d, inner)
	holds(t, d, record(outer), 16, outer)
	writes(t, d, []byte("more"))
	holds(t, d, laid(outer, []byte("more")), 16, outer, []byte("more"))
}

// P14.2: of records one by one torn at the beginning of a disk nothing is left
func TestNothingWhole(t *testing.T) {
	d := disk.New()
	var all []byte
	for keep := 1; keep < 13; keep++ {
		writes(t, d, []byte("abc"))
		powers(t, d, keep)
		all = append(all, record([]byte("abc"))[:keep]...)
		holds(t, d, all, len(all))
	}
	trims(t, d)
	holds(t, d, nil, 0)
}

// P14.2: all lasts behind Trim, whether something went or not
func TestTrim(t *testing.T) {
	d := written(t, [][]byte{[]byte("a")}, [][]byte{[]byte("b")})
	for range 2 {
		trims(t, d)
		holds(t, d, laid([]byte("a"), []byte("b")), 22, []byte("a"), []byte("b"))
	}
	powers(t, d, 0)
	holds(t, d, laid([]byte("a"), []byte("b")), 22, []byte("a"), []byte("b"))
	d = written(t, nil, [][]byte{[]byte("a"), []byte("b")})
	trims(t, d)
	powers(t, d, 0)
	holds(t, d, laid([]byte("a"), []byte("b")), 22, []byte("a"), []byte("b"))
}

// P14.3
func TestSyncedIsThere(t *testing.T) {
	synced := [][]byte{sample(100, 1), nil, sample(maxData, 2), []byte("x")}
	base := laid(synced...)
	for _, others := range [][][]byte{nil, {nil}, {[]byte("y")}, {sample(500, 3), sample(20, 4)}} {
		for _, keep := range []int{0, 1, 2, 9, 10, 11, 12, 510, 511, 540, math.MaxInt} {
			d := written(t, synced, others)
			powers(t, d, keep)
			if got := d.Bytes(); !bytes.HasPrefix(got, base) || d.Synced() != len(got) {
				t.Errorf("%d others, Power(%d): what was synced is not there", len(others), keep)
			}
			if got := d.Records(); len(got) < len(synced) || !sameLists(got[:len(synced)], synced) {
				t.Errorf("%d others, Power(%d): %d records", len(others), keep, len(got))
			}
			trims(t, d)
			powers(t, d, 0)
			if got := d.Bytes(); !bytes.HasPrefix(got, base) {
				t.Errorf("%d others, Power(%d): what was synced is not there behind Trim", len(others), keep)
			}
		}
	}
}

// draws are numbers that look drawn, and are the same ones every time.
type draws struct {
	at    uint64
	block []byte
}

func (d *draws) below(n int) int {
	if len(d.block) < 8 {
		d.at++
		sum := sha256.Sum256(binary.BigEndian.AppendUint64(nil, d.at))
		d.block = sum[:]
	}
	x := binary.BigEndian.Uint64(d.block)
	d.block = d.block[8:]
	return int(x % uint64(n))
}

// P14.4: with a Trim behind each Power, as a client does
func TestRecordsBehindPower(t *testing.T) {
	r := &draws{}
	d := disk.New()
	var synced, others [][]byte
	for step := range 3000 {
		switch r.below(6) {
		default:
			data := sample(r.below(50), byte(step))
			if d.Write(data) == api.OK {
				others = append(others, data)
			}
		case 0:
			syncs(t, d)
			synced, others = append(synced, others...), nil
		case 1:
			keep := r.below(len(laid(others...)) + 5)
			powers(t, d, keep)
			for len(others) > 0 && len(record(others[0])) <= keep {
				keep -= len(record(others[0]))
				synced, others = append(synced, others[0]), others[1:]
			}
			others = nil
			if got := d.Records(); !sameLists(got, synced) {
				t.Fatalf("step %d: %d records instead of %d", step, len(got), len(synced))
			}
			trims(t, d)
		}
		if step%50 == 0 {
			holds(t, d, laid(append(slices.Clone(synced), others...)...), len(laid(synced...)), append(slices.Clone(synced), others...)...)
		}
		if len(synced) > 100 {
			d, synced, others = disk.New(), nil, nil
		}
	}
}

// plainRecords are the whole records of bytes of any kind, by the chapter's words.
func plainRecords(b []byte) [][]byte {
	var l [][]byte
	for len(b) >= 10 {
		n := int(b[0])*256 + int(b[1])
		if len(b) < 10+n {
			break
		}
		sum := sha256.Sum256(b[10 : 10+n])
		if !bytes.Equal(sum[:8], b[2:10]) {
			break
		}
		l, b = append(l, b[10:10+n]), b[10+n:]
	}
	return l
}

// P14.1, P14.2: without a Trim, so that records stand behind torn ones
func TestAsTheWordsSay(t *testing.T) {
	r := &draws{}
	for range 60 {
		d := disk.New()
		var all []byte
		synced := 0
		for range 40 {
			switch r.below(8) {
			default:
				data := sample(r.below(30), byte(r.below(256)))
				if r.below(10) == 0 {
					data = sample(maxData-r.below(3), 1)
				}
				if len(all)+10+len(data) > 65536 {
					refuses(t, d, data, api.ErrFull)
				} else {
					writes(t, d, data)
					all = append(all, record(data)...)
				}
			case 0:
				syncs(t, d)
				synced = len(all)
			case 1:
				keep := r.below(100)
				powers(t, d, keep)
				all = all[:min(len(all), synced+keep)]
				synced = len(all)
			case 2:
				if r.below(3) == 0 {
					trims(t, d)
					all = laid(plainRecords(all)...)
					synced = len(all)
				}
			case 3:
				d = d.Fork()
			}
			holds(t, d, all, synced, plainRecords(all)...)
		}
	}
}

// P3
func TestWhatIsHandedInStays(t *testing.T) {
	for _, n := range []int{0, 1, 50, maxData, maxData + 1} {
		room := append(sample(n, 5), bytes.Repeat([]byte{0xa5}, 100)...)
		was := slices.Clone(room)
		d := disk.New()
		d.Write(room[:n])
		d.Write(room[:n])
		if !bytes.Equal(room, was) {
			t.Errorf("%d bytes: changed", n)
		}
		if n > maxData {
			continue
		}
		// What becomes of the caller's bytes is nothing to the disk.
		clear(room)
		holds(t, d, laid(was[:n], was[:n]), 0, was[:n], was[:n])
	}
}

// spoil fills a list, with its spare room.
func spoil(b []byte) {
	b = b[:cap(b)]
	for i := range b {
		b[i] = 0xee
	}
}

func TestAnswersAreTheCallers(t *testing.T) {
	for n := range 8 {
		d := disk.New()
		var l [][]byte
		for i := range n {
			l = append(l, sample(i*5, byte(i)))
		}
		writes(t, d, l...)
		powers(t, d, len(laid(l...)))
		writes(t, d, []byte("more"))
		powers(t, d, 7)
		all := append(laid(l...), record([]byte("more"))[:7]...)
		one, second := d.Bytes(), d.Bytes()
		records, others := d.Records(), d.Records()
		spoil(one)
		if !bytes.Equal(second, all) {
			t.Errorf("%d: two answers are one list", n)
		}
		for i, r := range records {
			spoil(r)
			if !sameLists(records[i+1:], l[i+1:]) || !sameLists(others, l) {
				t.Errorf("%d: records lie in one another, or in another answer", n)
			}
		}
		records = records[:cap(records)]
		for i := range records {
			records[i] = []byte("other")
		}
		if !sameLists(others, l) {
			t.Errorf("%d: two answers are one list", n)
		}
		holds(t, d, all, len(all), l...)
		writes(t, d, []byte("next"))
		trims(t, d)
		if !bytes.Equal(second, all) || !sameLists(others, l) {
			t.Errorf("%d: an answer changes later", n)
		}
		holds(t, d, laid(l...), len(laid(l...)), l...)
	}
}

// P4
func TestFork(t *testing.T) {
	a, b := []byte("a"), []byte("bc")
	for n := range 20 {
		others := slices.Repeat([][]byte{b}, n)
		d := written(t, [][]byte{a}, others)
		all := append([][]byte{a}, others...)
		f := d.Fork()
		if f == d {
			t.Fatal("a fork is the same one")
		}
		holds(t, f, laid(all...), 11, all...)
		writes(t, f, []byte("fork"))
		writes(t, d, []byte("disk"))
		its, mine := append(slices.Clone(all), []byte("fork")), append(slices.Clone(all), []byte("disk"))
		holds(t, f, laid(its...), 11, its...)
		holds(t, d, laid(mine...), 11, mine...)
		powers(t, f, 3)
		holds(t, f, laid(its...)[:14], 14, a)
		holds(t, d, laid(mine...), 11, mine...)
	}
}

func TestForkAndEachCall(t *testing.T) {
	a, b := []byte("a"), []byte("bc")
	for i, change := range []func(d *disk.Disk){
		func(d *disk.Disk) { d.Write([]byte("x")) },
		func(d *disk.Disk) { d.Sync() },
		func(d *disk.Disk) { d.Power(0) },
		func(d *disk.Disk) { d.Power(4); d.Write([]byte("xyz")) },
		func(d *disk.Disk) { d.Trim() },
		func(d *disk.Disk) { d.Power(0); d.Trim(); d.Write([]byte("other")) },
	} {
		d := written(t, [][]byte{a}, [][]byte{b, b})
		f := d.Fork()
		change(f)
		holds(t, d, laid(a, b, b), 11, a, b, b)
		f = d.Fork()
		change(d)
		holds(t, f, laid(a, b, b), 11, a, b, b)
		if t.Failed() {
			t.Fatal(i)
		}
	}
}

// Forks of one, and of each other, have room of their own for what comes next.
func TestForksOfForks(t *testing.T) {
	d := written(t, [][]byte{[]byte("a")}, [][]byte{[]byte("b"), []byte("c")})
	powers(t, d, 11)
	all := []*disk.Disk{d, d.Fork(), d.Fork()}
	all = append(all, all[1].Fork())
	for i, f := range all {
		writes(t, f, []byte{byte(i)}, []byte{byte(i)})
	}
	for i, f := range all {
		l := [][]byte{[]byte("a"), []byte("b"), {byte(i)}, {byte(i)}}
		holds(t, f, laid(l...), 22, l...)
	}
}

// P6
func TestDisksAreOnTheirOwn(t *testing.T) {
	a, b := disk.New(), disk.New()
	writes(t, a, []byte("a"))
	writes(t, b, []byte("bb"))
	syncs(t, a)
	holds(t, a, laid([]byte("a")), 11, []byte("a"))
	holds(t, b, laid([]byte("bb")), 0, []byte("bb"))
}
