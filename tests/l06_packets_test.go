package tests

import (
	"bytes"
	"slices"
	"testing"

	"loop.example/g01213/impl"
)

// P13, samples are read from their packets, and a packet that is torn has the first samples.

const (
	headBytes   = 3
	recordBytes = 37
	mostBytes   = 2373
)

func TestP13PacketsAreWrittenByHand(t *testing.T) {
	wantTrue(t, "a packet without samples", bytes.Equal(packetOf(t, nil), []byte{'S', 'P', 0, 163, 0}))
	wanted := []byte{'S', 'P', 1, 0xa0, 0x86, 1, 0} // the turn 100000
	for range 15 {
		wanted = append(wanted, 0xfe, 0xff) // -2
	}
	wanted = append(wanted, 0xff, 0x7f) // 32767
	// The sum of the sample is 295 + 15*509 + 382 = 8312, or 120 modulo 256; that of all before it 164.
	wanted = append(wanted, 120, 8596%256, 8596/256)
	list := []impl.Sample{{Turn: 100000, Counts: countsBut(-2, 15, mostCount)}}
	wantTrue(t, "a packet with one sample", bytes.Equal(packetOf(t, list), wanted))
}

func TestP13SamplesAreReadFromTheirPackets(t *testing.T) {
	r := newRandom(1311)
	for _, list := range goodSamples(r) {
		data := packetOf(t, list)
		want(t, "the length of a packet", len(data), 5+recordBytes*len(list))
		wantTrue(t, "PacketOf", bytes.Equal(data, oraclePacket(list)))
		read, code := impl.ReadPacket(data)
		wantSamples(t, "ReadPacket of PacketOf", read, code, list)
		torn, code := impl.TornSamples(data)
		wantSamples(t, "TornSamples of PacketOf", torn, code, list)
	}
	full := packetOf(t, manyBytes(impl.MaxSamples))
	want(t, "the longest packet", len(full), mostBytes)
	wantTrue(t, "the sum of a full packet is greater than the modulus", oracleSumOfBytes(full[:mostBytes-2]) > 2*65521)
}

// manyBytes has samples of which the bytes have great sums.
func manyBytes(count int) []impl.Sample {
	var list []impl.Sample
	for n := range count {
		list = append(list, impl.Sample{Turn: 0xffff, Counts: flatCounts(int16(-1 - n))})
	}
	return list
}

// Each way to tear a packet leaves the samples that are there whole.
func TestP13PacketsThatAreTorn(t *testing.T) {
	r := newRandom(1312)
	for _, count := range []int{0, 1, 2, 3, 10} {
		list := randomSamples(r, count)
		data := packetOf(t, list)
		for size := range data {
			torn := slices.Clone(data[:size])
			read, code := impl.ReadPacket(torn)
			wantNoList(t, "ReadPacket of a packet that is torn", read, code, impl.ErrSyntax)
			first, code := impl.TornSamples(torn)
			if size < headBytes {
				wantNoList(t, "TornSamples without a head", first, code, impl.ErrSyntax)
				continue
			}
			whole := min((size-headBytes)/recordBytes, count)
			wantSamples(t, "TornSamples", first, code, list[:whole])
		}
		for _, more := range [][]byte{{0}, {1, 2}, data, make([]byte, recordBytes)} { // too much is no packet, but is torn at its end
			long := slices.Concat(data, more)
			read, code := impl.ReadPacket(long)
			wantNoList(t, "ReadPacket of a packet with more behind it", read, code, impl.ErrSyntax)
			first, code := impl.TornSamples(long)
			wantSamples(t, "TornSamples of a packet with more behind it", first, code, list)
		}
	}
	for _, none := range [][]byte{nil, {}} {
		read, code := impl.ReadPacket(none)
		wantNoList(t, "ReadPacket of nothing", read, code, impl.ErrSyntax)
		first, code := impl.TornSamples(none)
		wantNoList(t, "TornSamples of nothing", first, code, impl.ErrSyntax)
	}
}

// A sample of which only the check is missing is not there whole.
func TestP13PacketsThatAreTornAheadOfACheck(t *testing.T) {
	list := []impl.Sample{{Turn: 3, Counts: flatCounts(0)}, {Turn: 7, Counts: flatCounts(0)}}
	data := packetOf(t, list)
	first, code := impl.TornSamples(data[:headBytes+recordBytes-1])
	wantSamples(t, "torn ahead of the first check", first, code, nil)
	first, code = impl.TornSamples(data[:headBytes+2*recordBytes-1])
	wantSamples(t, "torn ahead of the second check", first, code, list[:1])
	first, code = impl.TornSamples(data[:headBytes+2*recordBytes])
	wantSamples(t, "torn behind the second check", first, code, list)
}

// Each byte that is another one is told, and the samples ahead of it are left.
func TestP13PacketsThatAreChanged(t *testing.T) {
	r := newRandom(1313)
	list := randomSamples(r, 4)
	data := packetOf(t, list)
	for at := headBytes; at < len(data); at++ {
		for _, by := range []byte{1, 128, 255, byte(1 + r.IntN(255))} {
			changed := slices.Clone(data)
			changed[at] += by
			read, code := impl.ReadPacket(changed)
			wantNoList(t, "ReadPacket of a packet that is changed", read, code, impl.ErrProof)
			first, code := impl.TornSamples(changed)
			wantSamples(t, "TornSamples of a packet that is changed", first, code, list[:min((at-headBytes)/recordBytes, 4)])
		}
	}
	for range 200 { // the whole is sealed again, so that only the check of the sample tells
		changed := slices.Clone(data[:len(data)-2])
		at := headBytes + r.IntN(len(changed)-headBytes)
		changed[at] ^= byte(1 + r.IntN(255))
		read, code := impl.ReadPacket(sealed(changed))
		wantNoList(t, "ReadPacket with the check of a sample that is another one", read, code, impl.ErrProof)
	}
	for n := range 3 { // bytes of a sample change places with each other, which no sum tells
		changed := slices.Clone(data)
		at := headBytes + n*recordBytes + 4
		changed[at], changed[at+1] = data[at+1], data[at]
		read, code := impl.ReadPacket(changed)
		wanted := slices.Clone(list)
		wanted[n].Counts[0] = int16(uint16(data[at])<<8 | uint16(data[at+1]))
		wantSamples(t, "ReadPacket where no check tells", read, code, wanted)
	}
}

// The check of the whole is less than the modulus: the sum and one more modulus is another one.
func TestP13ChecksOfTheWhole(t *testing.T) {
	data := packetOf(t, nil)
	for check := range 1 << 16 {
		data[3], data[4] = byte(check), byte(check>>8)
		read, code := impl.ReadPacket(data)
		if check == 163 {
			wantSamples(t, "ReadPacket of no samples", read, code, nil)
			continue
		}
		wantNoList(t, "ReadPacket with such a check", read, code, impl.ErrProof)
		first, code := impl.TornSamples(data)
		wantSamples(t, "TornSamples with such a check", first, code, nil)
	}
}

// samplesOfSum has so many samples that all bytes of their packet, but the last two, have the given sum.
func samplesOfSum(t *testing.T, count, sum int) []impl.Sample {
	left := sum - 'S' - 'P' - count
	var list []impl.Sample
	for range count {
		bytes := min(left, 32*255)
		for bytes+bytes%256 > left { // the check of a sample counts as well
			bytes--
		}
		left -= bytes + bytes%256
		list = append(list, impl.Sample{Counts: countsOfBytes(bytes)})
	}
	want(t, "what is left of a sum", left, 0)
	return list
}

// countsOfBytes has bytes with the given sum.
func countsOfBytes(sum int) impl.Counts {
	var c impl.Counts
	for i := range c {
		low := min(sum, 255)
		high := min(sum-low, 255)
		c[i] = int16(uint16(high)<<8 | uint16(low))
		sum -= low + high
	}
	return c
}

func TestP13SumsThatAreJustTheModulus(t *testing.T) {
	for _, c := range []struct{ count, sum, check int }{
		{8, 65519, 65519}, {9, 65520, 65520}, {8, 65521, 0}, {9, 65522, 1}, {10, 65523, 2}, {10, 65535, 14}, {9, 65536, 15}, {10, 65537, 16},
		{18, 131041, 65520}, {17, 131042, 0}, {18, 131043, 1}, {33, 262084, 0}, {64, 500001, 500001 % 65521},
	} {
		list := samplesOfSum(t, c.count, c.sum)
		data := packetOf(t, list)
		end := len(data) - 2
		want(t, "the sum of a packet", oracleSumOfBytes(data[:end]), c.sum)
		want(t, "the check of a packet", int(data[end])+256*int(data[end+1]), c.check)
		read, code := impl.ReadPacket(data)
		wantSamples(t, "ReadPacket", read, code, list)
		if c.check+65521 < 1<<16 { // one more modulus
			data[end], data[end+1] = byte((c.check+65521)%256), byte((c.check+65521)/256)
			read, code = impl.ReadPacket(data)
			wantNoList(t, "ReadPacket with one more modulus", read, code, impl.ErrProof)
		}
	}
}

func TestP13HeadsOfNoPacket(t *testing.T) {
	data := packetOf(t, samplesAt(5, 1, 2))
	for _, head := range []string{"", "S", "SP", "P", "PS", "sp", "Sp", "sP", "XP", "SX", "\x00P", "S\x00", "SS", "PP", " SP"} {
		list, code := impl.ReadPacket([]byte(head))
		wantNoList(t, "ReadPacket of a head alone", list, code, impl.ErrSyntax)
		list, code = impl.TornSamples([]byte(head))
		wantNoList(t, "TornSamples of a head alone", list, code, impl.ErrSyntax)
		if head == "SP" {
			continue
		}
		changed := append([]byte(head), data[2:len(data)-2]...)
		for _, other := range [][]byte{changed, sealed(changed)} {
			list, code = impl.ReadPacket(other)
			wantNoList(t, "ReadPacket with another head", list, code, impl.ErrSyntax)
			list, code = impl.TornSamples(other)
			wantNoList(t, "TornSamples with another head", list, code, impl.ErrSyntax)
		}
	}
	// A number that is too great comes ahead of the checks, also where the length is the one it tells.
	for number := impl.MaxSamples + 1; number < 256; number++ {
		short := sealed([]byte{'S', 'P', byte(number)})
		list, code := impl.ReadPacket(short)
		wantNoList(t, "ReadPacket with a number that is too great", list, code, impl.ErrSyntax)
		list, code = impl.TornSamples(short)
		wantNoList(t, "TornSamples with a number that is too great", list, code, impl.ErrSyntax)
	}
	list, code := impl.TornSamples([]byte{'S', 'P', impl.MaxSamples})
	wantSamples(t, "TornSamples of a head with the greatest number", list, code, nil)
}

// The number in the head tells how many samples there are, however many follow.
func TestP13NumbersThatAreOthers(t *testing.T) {
	list := samplesAt(5, 1, 2, 3)
	data := packetOf(t, list)
	for number := range impl.MaxSamples + 1 {
		if number == len(list) {
			continue
		}
		changed := slices.Clone(data[:len(data)-2])
		changed[2] = byte(number)
		for _, other := range [][]byte{sealed(changed), append(slices.Clone(changed), data[len(data)-2:]...)} {
			read, code := impl.ReadPacket(other)
			wantNoList(t, "ReadPacket with another number", read, code, impl.ErrSyntax)
			first, code := impl.TornSamples(other)
			wantSamples(t, "TornSamples with another number", first, code, list[:min(number, len(list))])
		}
	}
}

// Turns that no sample has are told behind all checks.
func TestP13TurnsOfNoSample(t *testing.T) {
	for _, c := range []struct {
		turns []int64
		first int
	}{
		{[]int64{impl.MaxTurn + 1}, 0}, {[]int64{1 << 31}, 0}, {[]int64{1<<32 - 1}, 0}, {[]int64{0, impl.MaxTurn, impl.MaxTurn + 1, impl.MaxTurn + 1}, 2},
		{[]int64{1, 0}, 1}, {[]int64{3, 3, 2, 3}, 2}, {[]int64{0, 0, 1 << 24, 0, 0}, 2}, {[]int64{impl.MaxTurn, 0}, 1}, {[]int64{256, 1}, 1},
	} {
		list := samplesOfTurns(c.turns...)
		data := oraclePacket(list)
		read, code := impl.ReadPacket(data)
		wantNoList(t, "ReadPacket with such turns", read, code, impl.ErrSyntax)
		first, code := impl.TornSamples(data)
		wantSamples(t, "TornSamples with such turns", first, code, list[:c.first])
		for _, at := range []int{len(data) - 1, len(data) - 2, len(data) - 3, headBytes + recordBytes - 1} {
			changed := slices.Clone(data)
			changed[at]++
			read, code = impl.ReadPacket(changed)
			wantNoList(t, "ReadPacket with such turns, and another check", read, code, impl.ErrProof)
			read, code = impl.ReadPacket(changed[:len(changed)-1])
			wantNoList(t, "ReadPacket with such turns, and another length", read, code, impl.ErrSyntax)
		}
	}
	for _, turns := range [][]int64{{0}, {impl.MaxTurn}, {0, impl.MaxTurn}, {255, 256, 65535, 65536, 100000}} {
		list := samplesOfTurns(turns...)
		read, code := impl.ReadPacket(oraclePacket(list))
		wantSamples(t, "ReadPacket with the ends of turns", read, code, list)
	}
}

// More bytes than a packet can have come first, whatever they are.
func TestP13MoreBytesThanAreAllowed(t *testing.T) {
	full := packetOf(t, manyBytes(impl.MaxSamples))
	for _, data := range [][]byte{
		append(slices.Clone(full), 0), slices.Concat(full, full), make([]byte, mostBytes+1), make([]byte, 1000000), bytes.Repeat([]byte("SP"), mostBytes),
		append(packetOf(t, nil), make([]byte, mostBytes-4)...),
	} {
		list, code := impl.ReadPacket(data)
		wantNoList(t, "ReadPacket of too many bytes", list, code, impl.ErrRange)
		list, code = impl.TornSamples(data)
		wantNoList(t, "TornSamples of too many bytes", list, code, impl.ErrRange)
	}
	for _, data := range [][]byte{make([]byte, mostBytes), bytes.Repeat([]byte("SP"), mostBytes/2)} {
		list, code := impl.ReadPacket(data)
		wantNoList(t, "ReadPacket of as many bytes as are allowed", list, code, impl.ErrSyntax)
		list, code = impl.TornSamples(data)
		wantNoList(t, "TornSamples of as many bytes as are allowed", list, code, impl.ErrSyntax)
	}
	long := append(packetOf(t, samplesAt(1, 7)), make([]byte, mostBytes-42)...)
	want(t, "as many bytes as are allowed", len(long), mostBytes)
	list, code := impl.ReadPacket(long)
	wantNoList(t, "ReadPacket of as many bytes as are allowed", list, code, impl.ErrSyntax)
	list, code = impl.TornSamples(long)
	wantSamples(t, "TornSamples of as many bytes as are allowed", list, code, samplesAt(1, 7))
}
