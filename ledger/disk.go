package ledger

import (
	"bytes"

	"acequia/api"
	"acequia/journal"
)

// Load returns the ledger that is on a disk.
func Load(d api.Disk) (l api.Ledger, e api.Errno) {
	j, e := journal.Open(d)
	if e != api.OK {
		return l, e
	}
	rest := j.Records
	next := func() (p api.Posting, ok bool) {
		if len(rest) == 0 {
			return p, false
		}
		p, ok = posting(rest[0])
		rest = rest[1:]
		return p, ok
	}
	var read api.Ledger
	for p, ok := next(); ok; p, ok = next() {
		read.Postings = append(read.Postings, p)
	}
	for p := range valid(read) {
		l.Postings = append(l.Postings, p)
	}
	return l, api.OK
}

// Store puts the postings of a ledger on a disk on which they are not yet.
func Store(d api.Disk, l api.Ledger) (x api.Disk, e api.Errno) {
	if e = Check(l); e != api.OK {
		return x, e
	}
	j, e := journal.Open(d)
	if e != api.OK {
		return x, e
	}
	all := texts(l.Postings)
	for i, b := range j.Records {
		if i >= len(all) || !bytes.Equal(b, all[i]) {
			return x, api.ErrLedger
		}
	}
	for _, b := range all[len(j.Records):] {
		if j, e = journal.Append(j, b); e != api.OK {
			return x, e
		}
	}
	_, x, e = journal.Sync(j, d)
	return x, e
}
