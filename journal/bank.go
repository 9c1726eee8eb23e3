package journal

import (
	"farebox/api"
	"farebox/bits"
	"farebox/frame"
)

const (
	headerKind = 72 // the letter H
	recordKind = 82 // the letter R

	frameMore  = 10 // bytes that a frame has more than its payload
	numberAt   = 8  // where a header's number stands, behind the epoch
	snapshotAt = 12 // where its snapshot begins

	lastEpoch = 1<<63 - 1
)

// device is what the journal needs of a flash.
type device interface {
	Append(bank int, b []byte) api.Errno
	Erase(bank int) api.Errno
	Read(bank int) ([]byte, api.Errno)
	Room(bank int) (int, api.Errno)
}

// contents is what a headed bank holds; of one that is not headed all of it is zero.
type contents struct {
	epoch    uint64
	snapshot []byte
	records  [][]byte
	frames   []byte // those of the records, as they stand
	cut      int    // bytes of the tail
}

// header is a header's frame; false, if no frame can hold it.
func header(epoch uint64, number int, snapshot []byte) ([]byte, bool) {
	return frame.Encode(headerKind, bits.Join(bits.StoreBE(epoch), bits.StoreBE(uint32(number)), snapshot))
}

// read is what a bank of these bytes holds.
func read(b []byte) contents {
	first, begin, _ := frame.Decode(b, 0)
	if first.Kind != headerKind || len(first.Payload) < snapshotAt {
		return contents{}
	}
	epoch, _ := bits.LoadBE[uint64](first.Payload, 0)
	number, _ := bits.LoadBE[uint32](first.Payload, numberAt)
	records, end := readRecords(b, begin)
	if epoch < 1 || epoch > lastEpoch || uint64(len(records)) < uint64(number) {
		return contents{}
	}
	return contents{
		epoch:    epoch,
		snapshot: first.Payload[snapshotAt:],
		records:  records,
		frames:   b[begin:end],
		cut:      len(b) - end,
	}
}

// readRecords is the records whose frames follow one another from a place on, and the place behind them.
func readRecords(b []byte, at int) ([][]byte, int) {
	var records [][]byte
	for {
		// Where no frame is whole, the one that is read is a zero one, and of no record's kind.
		f, next, _ := frame.Decode(b, at)
		if f.Kind != recordKind {
			return records, at
		}
		records = append(records, f.Payload)
		at = next
	}
}

// bankSize is how many bytes a bank holds at most: both are of one size.
func bankSize(d device) (int, api.Errno) {
	b, err := d.Read(0)
	if err != api.OK {
		return 0, err
	}
	room, err := d.Room(0)
	return len(b) + room, err
}

// empty erases a bank if it has bytes.
func empty(d device, bank int) api.Errno {
	b, err := d.Read(bank)
	if err != api.OK || len(b) == 0 {
		return err
	}
	return d.Erase(bank)
}

// refill makes these bytes all that a bank has. They come in one write, so a crash leaves some beginning of them, and nothing else.
func refill(d device, bank int, b []byte) api.Errno {
	if err := empty(d, bank); err != api.OK {
		return err
	}
	return d.Append(bank, b)
}
